/- What patternParses_proved stands on, part 6 of 8. -/
import Derived.Test.YteibdplpbcobbaaPp5
namespace Go.Proofs.Yteibdplpbcobbaa
open Go.RowKit Abs
set_option maxHeartbeats 4000000
set_option maxRecDepth 20000
noncomputable def ref09_byteAt_L1b (t0 : Bytes) (t1 : Int) (t18 : Bytes) (k25 : Int → AHeap → R) (self : Int → AHeap → R) (t10_42 : Int) (h_43 : AHeap) : R :=
 lett (fun (t41 : Bool) (h_47 : AHeap) =>
  ifB t41
  (
   lett (IntKind.i64.wrap (t10_42 + 1)) fun (t43 : Int) =>
   self t43 h_47)
  (
   k25 t10_42 h_47)) fun k46 =>
 lett (decide (t10_42 < (lenS t18))) fun (t22 : Bool) =>
 ifB t22
 (
  lett (IntKind.i64.wrap (t1 + t10_42)) fun (t26 : Int) =>
  lett (decide (t26 < (lenS t0))) fun (t29 : Bool) =>
  ifB t29
  (
   lett (IntKind.i64.wrap (t1 + t10_42)) fun (t35 : Int) =>
   obind (idxS t0 t35) fun t36 =>
   obind (idxS t18 t10_42) fun t39 =>
   lett ((t36 : Int) == t39) fun (t40 : Bool) =>
   k46 t40 h_43)
  (
   k46 false h_43))
 (
  k46 false h_43)
noncomputable def ref09_byteAt_L1 (t0 : Bytes) (t1 : Int) (t18 : Bytes) (k25 : Int → AHeap → R) : Nat → Int → AHeap → R := iterR (fun _ _ => none) (ref09_byteAt_L1b t0 t1 t18 k25)
theorem ref09_byteAt_L1_s (t0 : Bytes) (t1 : Int) (t18 : Bytes) (k25 : Int → AHeap → R) (m : Nat) : ref09_byteAt_L1 t0 t1 t18 k25 (m + 1) = ref09_byteAt_L1b t0 t1 t18 k25 (ref09_byteAt_L1 t0 t1 t18 k25 m) := rfl
noncomputable def ref09_byteAt_L0b (call : CallF) (n : Nat) (t0 : Bytes) (t1 : Int) (k6 : Int → AHeap → R) (self : Int → Int → AHeap → R) (t7_10 : Int) (t8 : Int) (h_11 : AHeap) : R :=
 lett (decide (t8 < 256)) fun (t13 : Bool) =>
 ifB t13
 (
  lett (IntKind.u8.wrap t8) fun (t17 : Int) =>
  callN (call 32 [.int .u8 t17] h_11) fun r18 h_19 =>
  obind (avStr r18) fun t18 =>
  lett (fun (t10 : Int) (h_26 : AHeap) =>
   lett ((t10 : Int) == (lenS t18)) fun (t47 : Bool) =>
   ifB t47
   (
    lett (IntKind.u8.wrap t8) fun (t49 : Int) =>
    lett (IntKind.i64.wrap (t1 + t10)) fun (t52 : Int) =>
    some (.ret (.tup [.int .u8 t49, .int .i64 t52, .bool true]), h_26))
   (
    lett (IntKind.i64.wrap (t1 + t10)) fun (t55 : Int) =>
    lett (decide (t55 > t7_10)) fun (t57 : Bool) =>
    lett (fun (t7_37 : Int) (h_38 : AHeap) =>
     lett (IntKind.i64.wrap (t8 + 1)) fun (t15 : Int) =>
     self t7_37 t15 h_38) fun k36 =>
    ifB t57
    (
     lett (IntKind.i64.wrap (t1 + t10)) fun (t60 : Int) =>
     k36 t60 h_26)
    (
     k36 t7_10 h_26))) fun k25 =>
  ref09_byteAt_L1 t0 t1 t18 k25 n 0 h_19)
 (
  k6 t7_10 h_11)
noncomputable def ref09_byteAt_L0 (call : CallF) (n : Nat) (t0 : Bytes) (t1 : Int) (k6 : Int → AHeap → R) : Nat → Int → Int → AHeap → R := iterR (fun _ _ _ => none) (ref09_byteAt_L0b call n t0 t1 k6)
theorem ref09_byteAt_L0_s (call : CallF) (n : Nat) (t0 : Bytes) (t1 : Int) (k6 : Int → AHeap → R) (m : Nat) : ref09_byteAt_L0 call n t0 t1 k6 (m + 1) = ref09_byteAt_L0b call n t0 t1 k6 (ref09_byteAt_L0 call n t0 t1 k6 m) := rfl
noncomputable def ref09_byteAt (call : CallF) (n : Nat) (t0 : Bytes) (t1 : Int) (h : AHeap) : R :=
 lett (fun (t7 : Int) (h_7 : AHeap) =>
  some (.ret (.tup [.int .u8 0, .int .i64 t7, .bool false]), h_7)) fun k6 =>
 ref09_byteAt_L0 call n t0 t1 k6 n t1 0 h
theorem ref09_byteAt_ok {call : CallF} (hc : SaysAll Pg call) {n : Nat} {t0 : Bytes} {t1 : Int} {h : AHeap} {rR : ARes} {hR : AHeap} (z : ref09_byteAt call n t0 t1 h = some (rR, hR)) : Says Pg 38 [strA t0, .int .i64 t1] h rR hR := by
 unfold ref09_byteAt at z
 refine sO Try.func38 fun w0 m0 => ?_
 refine wW [(0, strA t0), (1, .int .i64 t1)] ?_
 refine oG fun n1 => W.r ?_
 refine oA 4 (.int .u8 0) ?_
 refine oA 5 (.int .i64 0) ?_
 refine oA 6 (.bool false) ?_
 refine oV [(0, strA t0), (1, .int .i64 t1)] (n1 ?_)
 refine oG fun n2 => W.r ?_
 refine oA 11 (.int .i64 t1) ?_
 refine oA 7 (.int .i64 t1) ?_
 refine oV [(0, strA t0), (1, .int .i64 t1), (7, .int .i64 t1)] (n2 ?_)
 refine W.s (fun K3 n3 _ q3 _ => ?_)
 refine oG fun n4 => W.r ?_
 refine oA 8 (.int .i64 0) ?_
 refine oV [(0, strA t0), (1, .int .i64 t1), (7, .int .i64 t1), (8, .int .i64 0)] (n4 ?_)
 obtain ⟨k6, e6, z⟩ := lS z
 have J6 : ∀ (t7 : Int) (h_7 : AHeap), k6 t7 h_7 = some (rR, hR) → Go w0 m0 (Func.ntmps Try.f38) (K3 .normal) [(7, .int .i64 t7)] [] h_7 := by
  intro t7 h_7 z
  rw [e6] at z
  refine n3 ?_
  refine oG fun n8 => W.r ?_
  refine oA 61 (.int .i64 t7) ?_
  refine oA 4 (.int .u8 0) ?_
  refine oA 5 (.int .i64 t7) ?_
  refine oA 6 (.bool false) ?_
  refine oV [(4, .int .u8 0), (5, .int .i64 t7), (6, .bool false)] (n8 (oY ?_))
  exact lZ z [.tmp 4, .tmp 5, .tmp 6] [.int .u8 0, .int .i64 t7, .bool false] (rT (rT (rT res_nil)))
 refine W.blockK (by kernel_rfl) (fun K5 n5 s5 o5 q5 p5 => ?_)
 refine W.loopK (by kernel_rfl) (fun I9 K9 b9 n9 e9 q9 p9 => ?_)
 have L9 : ∀ (m : Nat) (t7_10 : Int) (t8 : Int) (h_11 : AHeap), ref09_byteAt_L0 call n t0 t1 k6 m t7_10 t8 h_11 = some (rR, hR) → Go w0 m0 (Func.ntmps Try.f38) I9 [(0, strA t0), (1, .int .i64 t1), (7, .int .i64 t7_10), (8, .int .i64 t8)] [] h_11 := by
  intro m
  induction m with
  | zero => intro t7_10 t8 h_11 z; cases z
  | succ m ih9 =>
   intro t7_10 t8 h_11 z
   rw [ref09_byteAt_L0_s] at z; unfold ref09_byteAt_L0b at z
   refine b9 ?_
   refine W.s (fun _ n12 e12 _ _ => ?_)
   refine oG fun n13 => W.r ?_
   refine oA 12 (.int .i64 t8) ?_
   refine oB 13 z fun t13 z => ?_
   refine oV [(0, strA t0), (1, .int .i64 t1), (7, .int .i64 t7_10), (8, .int .i64 t8), (13, .bool t13)] (n13 ?_)
   cases t13 with
   | true =>
    refine oT z fun z => ?_
    refine oZ (n12 ?_)
    refine oH fun n15 q15 => ?_
    refine W.blockK (by kernel_rfl) (fun K16 n16 s16 o16 q16 p16 => ?_)
    refine oG fun n17 => W.r ?_
    refine oA 16 (.int .i64 t8) ?_
    refine oI 17 .u8 z fun t17 z => ?_
    refine oCs hc 18 z fun t18 h_19 z => ?_
    refine oA 9 (strA t18) ?_
    refine oV [(0, strA t0), (1, .int .i64 t1), (7, .int .i64 t7_10), (8, .int .i64 t8), (9, strA t18)] (n17 ?_)
    refine oG fun n22 => W.r ?_
    refine oA 10 (.int .i64 0) ?_
    refine oV [(0, strA t0), (1, .int .i64 t1), (7, .int .i64 t7_10), (8, .int .i64 t8), (9, strA t18), (10, .int .i64 0)] (n22 ?_)
    refine W.s (fun K23 n23 _ _ _ => ?_)
    obtain ⟨k25, e25, z⟩ := lS z
    have J25 : ∀ (t10 : Int) (h_26 : AHeap), k25 t10 h_26 = some (rR, hR) → Go w0 m0 (Func.ntmps Try.f38) (K23 .normal) [(0, strA t0), (1, .int .i64 t1), (7, .int .i64 t7_10), (8, .int .i64 t8), (9, strA t18), (10, .int .i64 t10)] [] h_26 := by
     intro t10 h_26 z
     rw [e25] at z
     refine n23 ?_
     refine oH fun n27 q27 => ?_
     refine oG fun n28 => W.r ?_
     refine oA 44 (.int .i64 t10) ?_
     refine oA 45 (strA t18) ?_
     refine oA 46 (.int .i64 (lenS t18)) ?_
     refine oB 47 z fun t47 z => ?_
     refine oV [(0, strA t0), (1, .int .i64 t1), (7, .int .i64 t7_10), (8, .int .i64 t8), (10, .int .i64 t10), (47, .bool t47)] (n28 ?_)
     cases t47 with
     | true =>
      refine oT z fun z => ?_
      refine oG fun n30 => W.r ?_
      refine oA 48 (.int .i64 t8) ?_
      refine oI 49 .u8 z fun t49 z => ?_
      refine oA 50 (.int .i64 t1) ?_
      refine oA 51 (.int .i64 t10) ?_
      refine oI 52 .i64 z fun t52 z => ?_
      refine oA 4 (.int .u8 t49) ?_
      refine oA 5 (.int .i64 t52) ?_
      refine oA 6 (.bool true) ?_
      refine oV [(4, .int .u8 t49), (5, .int .i64 t52), (6, .bool true)] (n30 (oY (q27 (q16 (q15 (q9 (q5 (q3 ?_))))))))
      exact lZ z [.tmp 4, .tmp 5, .tmp 6] [.int .u8 t49, .int .i64 t52, .bool true] (rT (rT (rT res_nil)))
     | false =>
      refine oU z fun z => ?_
      refine oZ (n27 ?_)
      refine oG fun n33 => W.r ?_
      refine oA 53 (.int .i64 t1) ?_
      refine oA 54 (.int .i64 t10) ?_
      refine oI 55 .i64 z fun t55 z => ?_
      refine oA 56 (.int .i64 t7_10) ?_
      refine oB 57 z fun t57 z => ?_
      refine oV [(0, strA t0), (1, .int .i64 t1), (7, .int .i64 t7_10), (8, .int .i64 t8), (10, .int .i64 t10), (57, .bool t57)] (n33 ?_)
      obtain ⟨k36, e36, z⟩ := lS z
      have J36 : ∀ (t7_37 : Int) (h_38 : AHeap), k36 t7_37 h_38 = some (rR, hR) → Go w0 m0 (Func.ntmps Try.f38) (K16 .normal) [(0, strA t0), (1, .int .i64 t1), (7, .int .i64 t7_37), (8, .int .i64 t8)] [] h_38 := by
       intro t7_37 h_38 z
       rw [e36] at z
       refine n16 (n15 (W.r ?_))
       refine oA 14 (.int .i64 t8) ?_
       refine oI 15 .i64 z fun t15 z => ?_
       refine oA 8 (.int .i64 t15) ?_
       refine oV [(0, strA t0), (1, .int .i64 t1), (7, .int .i64 t7_37), (8, .int .i64 t15)] (n9 ?_)
       exact gW _ (ih9 _ _ _ z)
      cases t57 with
      | true =>
       refine oT z fun z => ?_
       refine W.r ?_
       refine oA 58 (.int .i64 t1) ?_
       refine oA 59 (.int .i64 t10) ?_
       refine oI 60 .i64 z fun t60 z => ?_
       refine oA 7 (.int .i64 t60) ?_
       refine oV [(0, strA t0), (1, .int .i64 t1), (7, .int .i64 t60), (8, .int .i64 t8)] ?_
       exact gW _ (J36 _ _ z)
      | false =>
       refine oU z fun z => ?_
       refine oZ ?_
       exact gW _ (J36 _ _ z)
    refine W.blockK (by kernel_rfl) (fun K24 n24 s24 o24 q24 p24 => ?_)
    refine W.loopK (by kernel_rfl) (fun I41 K41 b41 n41 e41 q41 p41 => ?_)
    have L41 : ∀ (m : Nat) (t10_42 : Int) (h_43 : AHeap), ref09_byteAt_L1 t0 t1 t18 k25 m t10_42 h_43 = some (rR, hR) → Go w0 m0 (Func.ntmps Try.f38) I41 [(0, strA t0), (1, .int .i64 t1), (7, .int .i64 t7_10), (8, .int .i64 t8), (9, strA t18), (10, .int .i64 t10_42)] [] h_43 := by
     intro m
     induction m with
     | zero => intro t10_42 h_43 z; cases z
     | succ m ih41 =>
      intro t10_42 h_43 z
      rw [ref09_byteAt_L1_s] at z; unfold ref09_byteAt_L1b at z
      refine b41 ?_
      refine W.s (fun _ n44 e44 _ _ => ?_)
      refine W.s (fun K45 n45 _ _ _ => ?_)
      obtain ⟨k46, e46, z⟩ := lS z
      have J46 : ∀ (t41 : Bool) (h_47 : AHeap), k46 t41 h_47 = some (rR, hR) → Go w0 m0 (Func.ntmps Try.f38) (K45 .normal) [(0, strA t0), (1, .int .i64 t1), (7, .int .i64 t7_10), (8, .int .i64 t8), (9, strA t18), (10, .int .i64 t10_42), (41, .bool t41)] [] h_47 := by
       intro t41 h_47 z
       rw [e46] at z
       refine n45 ?_
       cases t41 with
       | true =>
        refine oT z fun z => ?_
        refine oZ (n44 ?_)
        refine W.blockK (by kernel_rfl) (fun K48 n48 s48 o48 q48 p48 => ?_)
        refine W.r ?_
        refine oA 42 (.int .i64 t10_42) ?_
        refine oI 43 .i64 z fun t43 z => ?_
        refine oA 10 (.int .i64 t43) ?_
        refine oV [(0, strA t0), (1, .int .i64 t1), (7, .int .i64 t7_10), (8, .int .i64 t8), (9, strA t18), (10, .int .i64 t43)] (n48 (n41 ?_))
        exact gW _ (ih41 _ _ z)
       | false =>
        refine oU z fun z => ?_
        refine W.exit (by kernel_rfl) ?_
        refine e44 (e41 ?_)
        refine s24 (by kernel_rfl) ?_
        exact gW _ (J25 _ _ z)
      refine W.draw (by kernel_rfl) (hc.ok w0) (plan := [0, 1, 2, 3, 4, 5, 6, 7, 8, 9, 10, 11, 12, 13, 14, 15, 16, 17, 18, 19, 20, 21, 22]) (by kernel_rfl) (by kernel_rfl) (by kernel_rfl) ?_
      refine WD.a 0 (some 19) (.int .i64 t10_42) h_43 ?_
      refine WD.a 0 (some 20) (strA t18) h_43 ?_
      refine WD.a 0 (some 21) (.int .i64 (lenS t18)) h_43 ?_
      obtain ⟨t22, e50, z⟩ := lS z
      refine WD.val (d := (some 22)) (v := .bool t22) (h' := h_43) (by kernel_rfl) (by kernel_rfl) (val_of AV.bool e50 (by kernel_rfl)) (k := 0) (by kernel_rfl) (fun e => absurd e (by decide)) (by decide) ?_
      refine WD.a 0 (some 23) (.bool t22) h_43 ?_
      cases t22 with
      | true =>
       replace z := ifB_t z
       refine WD.a 0 (some 24) (.int .i64 t1) h_43 ?_
       refine WD.a 0 (some 25) (.int .i64 t10_42) h_43 ?_
       obtain ⟨t26, e51, z⟩ := lS z
       refine WD.val (d := (some 26)) (v := .int .i64 t26) (h' := h_43) (by kernel_rfl) (by kernel_rfl) (val_of (AV.int .i64) e51 (by kernel_rfl)) (k := 0) (by kernel_rfl) (fun e => absurd e (by decide)) (by decide) ?_
       refine WD.a 0 (some 27) (strA t0) h_43 ?_
       refine WD.a 0 (some 28) (.int .i64 (lenS t0)) h_43 ?_
       obtain ⟨t29, e52, z⟩ := lS z
       refine WD.val (d := (some 29)) (v := .bool t29) (h' := h_43) (by kernel_rfl) (by kernel_rfl) (val_of AV.bool e52 (by kernel_rfl)) (k := 0) (by kernel_rfl) (fun e => absurd e (by decide)) (by decide) ?_
       refine WD.a 0 (some 30) (.bool t29) h_43 ?_
       refine WD.a 0 (some 31) (.bool t29) h_43 ?_
       cases t29 with
       | true =>
        replace z := ifB_t z
        refine WD.a 0 (some 32) (strA t0) h_43 ?_
        refine WD.a 0 (some 33) (.int .i64 t1) h_43 ?_
        refine WD.a 0 (some 34) (.int .i64 t10_42) h_43 ?_
        obtain ⟨t35, e53, z⟩ := lS z
        refine WD.val (d := (some 35)) (v := .int .i64 t35) (h' := h_43) (by kernel_rfl) (by kernel_rfl) (val_of (AV.int .i64) e53 (by kernel_rfl)) (k := 0) (by kernel_rfl) (fun e => absurd e (by decide)) (by decide) ?_
        obtain ⟨t36, e54, z⟩ := oS z
        refine WD.b 0 (some 36) (.int .u8 t36) h_43 (index_str (P := Pg) (h := h_43) (t := 9) (k := .i64) (by kernel_rfl) e54) ?_
        refine WD.a 0 (some 37) (strA t18) h_43 ?_
        refine WD.a 0 (some 38) (.int .i64 t10_42) h_43 ?_
        obtain ⟨t39, e55, z⟩ := oS z
        refine WD.b 0 (some 39) (.int .u8 t39) h_43 (index_str (P := Pg) (h := h_43) (t := 9) (k := .i64) (by kernel_rfl) e55) ?_
        obtain ⟨t40, e56, z⟩ := lS z
        refine WD.val (d := (some 40)) (v := .bool t40) (h' := h_43) (by kernel_rfl) (by kernel_rfl) (val_of AV.bool e56 (by kernel_rfl)) (k := 0) (by kernel_rfl) (fun e => absurd e (by decide)) (by decide) ?_
        refine WD.a 0 (some 41) (.bool t40) h_43 ?_
        refine WD.nil ?_
        exact gW _ (J46 _ _ z)
       | false =>
        replace z := ifB_f z
        refine oD 0 (some 32) ?_
        refine oD 0 (some 33) ?_
        refine oD 0 (some 34) ?_
        refine oD 0 (some 35) ?_
        refine oD 0 (some 36) ?_
        refine oD 0 (some 37) ?_
        refine oD 0 (some 38) ?_
        refine oD 0 (some 39) ?_
        refine oD 0 (some 40) ?_
        refine WD.a 0 (some 41) (.bool false) h_43 ?_
        refine WD.nil ?_
        exact gW _ (J46 _ _ z)
      | false =>
       replace z := ifB_f z
       refine oD 0 (some 24) ?_
       refine oD 0 (some 25) ?_
       refine oD 0 (some 26) ?_
       refine oD 0 (some 27) ?_
       refine oD 0 (some 28) ?_
       refine oD 0 (some 29) ?_
       refine WD.a 0 (some 30) (.bool false) h_43 ?_
       refine WD.a 0 (some 31) (.bool false) h_43 ?_
       refine oD 0 (some 32) ?_
       refine oD 0 (some 33) ?_
       refine oD 0 (some 34) ?_
       refine oD 0 (some 35) ?_
       refine oD 0 (some 36) ?_
       refine oD 0 (some 37) ?_
       refine oD 0 (some 38) ?_
       refine oD 0 (some 39) ?_
       refine oD 0 (some 40) ?_
       refine WD.a 0 (some 41) (.bool false) h_43 ?_
       refine WD.nil ?_
       exact gW _ (J46 _ _ z)
    exact gW _ (L41 _ _ _ z)
   | false =>
    refine oU z fun z => ?_
    refine W.exit (by kernel_rfl) ?_
    refine e12 (e9 ?_)
    refine s5 (by kernel_rfl) ?_
    exact gW _ (J6 _ _ z)
 exact gW _ (L9 _ _ _ _ z)
noncomputable def ref09_Scan_L0b (call : CallF) (t0 : Bytes) (self : Int → AV → AV → AHeap → R) (t1_15 : Int) (t8 : AV) (t9 : AV) (h_16 : AHeap) : R :=
 outK (bldSl Pg h_16 64 1 [(0, .int .i64 t1_15)]) fun v28 h_19 =>
 outK (opAppend Pg h_19 64 64 t9 v28) fun v29 h_21 =>
 lett (decide (t1_15 < (lenS t0))) fun (t33 : Bool) =>
 lett (fun (t39 : Bool) (h_26 : AHeap) =>
  ifB t39
  (
   outK (opConv Pg h_26 50 9 (some t8)) fun v41 h_30 =>
   obind (avStr v41) fun t41 =>
   lett (IntKind.i64.wrap (t1_15 + 1)) fun (t44 : Int) =>
   some (.ret (.tup [strA t41, v29, .int .i64 t44, .bool true]), h_30))
  (
   callN (call 38 [strA t0, .int .i64 t1_15] h_26) fun r48 h_35 =>
   obind (extT 0 r48) fun v49 =>
   obind (avInt .u8 v49) fun t49 =>
   obind (extT 1 r48) fun v50 =>
   obind (avInt .i64 v50) fun t50 =>
   obind (extT 2 r48) fun v51 =>
   obind (avBool v51) fun t51 =>
   lett (!t51) fun (t53 : Bool) =>
   ifB t53
   (
    some (.ret (.tup [strA ([] : Bytes), AV.nsl, .int .i64 t50, .bool false]), h_35))
   (
    outK (bldSl Pg h_35 50 1 [(0, .int .u8 t49)]) fun v57 h_48 =>
    outK (opAppend Pg h_48 50 50 t8 v57) fun v58 h_50 =>
    self t50 v58 v29 h_50))) fun j39 =>
 ifB t33
 (
  obind (idxS t0 t1_15) fun t37 =>
  lett ((t37 : Int) == 34) fun (t38 : Bool) =>
  j39 t38 h_21)
 (
  j39 false h_21)
noncomputable def ref09_Scan_L0 (call : CallF) (t0 : Bytes) : Nat → Int → AV → AV → AHeap → R := iterR (fun _ _ _ _ => none) (ref09_Scan_L0b call t0)
theorem ref09_Scan_L0_s (call : CallF) (t0 : Bytes) (m : Nat) : ref09_Scan_L0 call t0 (m + 1) = ref09_Scan_L0b call t0 (ref09_Scan_L0 call t0 m) := rfl
noncomputable def ref09_Scan (call : CallF) (n : Nat) (t0 : Bytes) (t1 : Int) (h : AHeap) : R :=
 lett (decide (t1 ≥ (lenS t0))) fun (t16 : Bool) =>
 lett (fun (t22 : Bool) (h_5 : AHeap) =>
  ifB t22
  (
   some (.ret (.tup [strA ([] : Bytes), AV.nsl, .int .i64 t1, .bool false]), h_5))
  (
   lett (IntKind.i64.wrap (t1 + 1)) fun (t25 : Int) =>
   ref09_Scan_L0 call t0 n t25 AV.nsl AV.nsl h_5)) fun j22 =>
 ifB t16
 (
  j22 true h)
 (
  obind (idxS t0 t1) fun t20 =>
  lett ((t20 : Int) != 34) fun (t21 : Bool) =>
  j22 t21 h)
theorem ref09_Scan_ok {call : CallF} (hc : SaysAll Pg call) {n : Nat} {t0 : Bytes} {t1 : Int} {h : AHeap} {rR : ARes} {hR : AHeap} (z : ref09_Scan call n t0 t1 h = some (rR, hR)) : Says Pg 33 [strA t0, .int .i64 t1] h rR hR := by
 unfold ref09_Scan at z
 refine sO Try.func33 fun w0 m0 => ?_
 refine wW [(0, strA t0), (1, .int .i64 t1)] ?_
 refine oG fun n1 => W.r ?_
 refine oA 4 (strA ([] : Bytes)) ?_
 refine oA 5 AV.nsl ?_
 refine oA 6 (.int .i64 0) ?_
 refine oA 7 (.bool false) ?_
 refine oV [(0, strA t0), (1, .int .i64 t1)] (n1 ?_)
 refine oH fun n2 q2 => ?_
 refine W.s (fun K3 n3 _ _ _ => ?_)
 refine W.r ?_
 refine oA 13 (.int .i64 t1) ?_
 refine oA 14 (strA t0) ?_
 refine oA 15 (.int .i64 (lenS t0)) ?_
 refine oB 16 z fun t16 z => ?_
 refine oA 17 (.bool t16) ?_
 obtain ⟨j22, e6, z⟩ := lS z
 have J7 : ∀ (t22 : Bool) (h_5 : AHeap), j22 t22 h_5 = some (rR, hR) → WL Pg w0 m0 (Func.ntmps Try.f33) (Code.ops (Code.p1 (Code.p1 (Code.p2 (codeOf Try.f33))))) 10 K3 [(0, strA t0), (1, .int .i64 t1), (22, .bool t22)] [] h_5 := by
  intro t22 h_5 z
  rw [e6] at z
  refine oV [(0, strA t0), (1, .int .i64 t1), (22, .bool t22)] (n3 ?_)
  cases t22 with
  | true =>
   refine oT z fun z => ?_
   refine oG fun n8 => W.r ?_
   refine oA 23 (.int .i64 t1) ?_
   refine oA 4 (strA ([] : Bytes)) ?_
   refine oA 5 AV.nsl ?_
   refine oA 6 (.int .i64 t1) ?_
   refine oA 7 (.bool false) ?_
   refine oV [(4, strA ([] : Bytes)), (5, AV.nsl), (6, .int .i64 t1), (7, .bool false)] (n8 (oY (q2 ?_)))
   exact lZ z [.tmp 4, .tmp 5, .tmp 6, .tmp 7] [strA ([] : Bytes), AV.nsl, .int .i64 t1, .bool false] (rT (rT (rT (rT res_nil))))
  | false =>
   refine oU z fun z => ?_
   refine oZ (n2 ?_)
   refine oG fun n9 => W.r ?_
   refine oA 24 (.int .i64 t1) ?_
   refine oI 25 .i64 z fun t25 z => ?_
   refine oA 1 (.int .i64 t25) ?_
   refine oV [(0, strA t0), (1, .int .i64 t25)] (n9 ?_)
   refine oG fun n11 => W.r ?_
   refine oA 8 AV.nsl ?_
   refine oV [(0, strA t0), (1, .int .i64 t25), (8, AV.nsl)] (n11 ?_)
   refine oG fun n12 => W.r ?_
   refine oA 9 AV.nsl ?_
   refine oV [(0, strA t0), (1, .int .i64 t25), (8, AV.nsl), (9, AV.nsl)] (n12 ?_)
   refine W.blockK (by kernel_rfl) (fun K13 n13 s13 o13 q13 p13 => ?_)
   refine W.loopK (by kernel_rfl) (fun I14 K14 b14 n14 e14 q14 p14 => ?_)
   have L14 : ∀ (m : Nat) (t1_15 : Int) (t8 : AV) (t9 : AV) (h_16 : AHeap), ref09_Scan_L0 call t0 m t1_15 t8 t9 h_16 = some (rR, hR) → Go w0 m0 (Func.ntmps Try.f33) I14 [(0, strA t0), (1, .int .i64 t1_15), (8, t8), (9, t9)] [] h_16 := by
    intro m
    induction m with
    | zero => intro t1_15 t8 t9 h_16 z; cases z
    | succ m ih14 =>
     intro t1_15 t8 t9 h_16 z
     rw [ref09_Scan_L0_s] at z; unfold ref09_Scan_L0b at z
     refine b14 ?_
     refine W.blockK (by kernel_rfl) (fun K17 n17 s17 o17 q17 p17 => ?_)
     refine oG fun n18 => W.r ?_
     refine oA 26 t9 ?_
     refine oA 27 (.int .i64 t1_15) ?_
     refine oK 28 z fun v28 h_19 z => ?_
     refine oK 29 z fun v29 h_21 z => ?_
     refine oA 9 v29 ?_
     refine oV [(0, strA t0), (1, .int .i64 t1_15), (8, t8), (9, v29)] (n18 ?_)
     refine oH fun n23 q23 => ?_
     refine W.s (fun K24 n24 _ _ _ => ?_)
     refine W.r ?_
     refine oA 30 (.int .i64 t1_15) ?_
     refine oA 31 (strA t0) ?_
     refine oA 32 (.int .i64 (lenS t0)) ?_
     refine oB 33 z fun t33 z => ?_
     refine oA 34 (.bool t33) ?_
     obtain ⟨j39, e27, z⟩ := lS z
     have J28 : ∀ (t39 : Bool) (h_26 : AHeap), j39 t39 h_26 = some (rR, hR) → WL Pg w0 m0 (Func.ntmps Try.f33) (Code.ops (Code.p1 (Code.p1 (Code.p2 (Code.p1 (Code.p1 (Code.p1 (Code.p2 (Code.p2 (Code.p2 (Code.p2 (Code.p2 (codeOf Try.f33))))))))))))) 10 K24 [(0, strA t0), (1, .int .i64 t1_15), (8, t8), (9, v29), (39, .bool t39)] [] h_26 := by
      intro t39 h_26 z
      rw [e27] at z
      refine oV [(0, strA t0), (1, .int .i64 t1_15), (8, t8), (9, v29), (39, .bool t39)] (n24 ?_)
      cases t39 with
      | true =>
       refine oT z fun z => ?_
       refine oG fun n29 => W.r ?_
       refine oA 40 t8 ?_
       replace z := outK_some z; obtain ⟨v41, h_30, e31, z⟩ := z
       replace z := oS z; obtain ⟨t41, c32, z⟩ := z
       have c32 := avStr_some c32
       subst c32
       refine WL.b (some 41) (strA t41) h_30 e31 ?_
       refine oA 42 v29 ?_
       refine oA 43 (.int .i64 t1_15) ?_
       refine oI 44 .i64 z fun t44 z => ?_
       refine oA 4 (strA t41) ?_
       refine oA 5 v29 ?_
       refine oA 6 (.int .i64 t44) ?_
       refine oA 7 (.bool true) ?_
       refine oV [(4, strA t41), (5, v29), (6, .int .i64 t44), (7, .bool true)] (n29 (oY (q23 (q17 (q14 (q13 ?_))))))
       exact lZ z [.tmp 4, .tmp 5, .tmp 6, .tmp 7] [strA t41, v29, .int .i64 t44, .bool true] (rT (rT (rT (rT res_nil))))
      | false =>
       refine oU z fun z => ?_
       refine oZ (n23 ?_)
       refine oG fun n34 => W.r ?_
       refine oA 46 (strA t0) ?_
       refine oA 47 (.int .i64 t1_15) ?_
       refine oC hc (some 48) z fun r48 h_35 z => ?_
       refine oA 45 r48 ?_
       refine oEi 49 z fun t49 z => ?_
       refine oEi 50 z fun t50 z => ?_
       refine oEb 51 z fun t51 z => ?_
       refine oA 10 (.int .u8 t49) ?_
       refine oA 11 (.int .i64 t50) ?_
       refine oA 12 (.bool t51) ?_
       refine oV [(0, strA t0), (8, t8), (9, v29), (10, .int .u8 t49), (11, .int .i64 t50), (12, .bool t51)] (n34 ?_)
       refine oH fun n43 q43 => ?_
       refine oG fun n44 => W.r ?_
       refine oA 52 (.bool t51) ?_
       refine oB 53 z fun t53 z => ?_
       refine oV [(0, strA t0), (8, t8), (9, v29), (10, .int .u8 t49), (11, .int .i64 t50), (53, .bool t53)] (n44 ?_)
       cases t53 with
       | true =>
        refine oT z fun z => ?_
        refine oG fun n46 => W.r ?_
        refine oA 54 (.int .i64 t50) ?_
        refine oA 4 (strA ([] : Bytes)) ?_
        refine oA 5 AV.nsl ?_
        refine oA 6 (.int .i64 t50) ?_
        refine oA 7 (.bool false) ?_
        refine oV [(4, strA ([] : Bytes)), (5, AV.nsl), (6, .int .i64 t50), (7, .bool false)] (n46 (oY (q43 (q17 (q14 (q13 ?_))))))
        exact lZ z [.tmp 4, .tmp 5, .tmp 6, .tmp 7] [strA ([] : Bytes), AV.nsl, .int .i64 t50, .bool false] (rT (rT (rT (rT res_nil))))
       | false =>
        refine oU z fun z => ?_
        refine oZ (n43 ?_)
        refine oG fun n47 => W.r ?_
        refine oA 55 t8 ?_
        refine oA 56 (.int .u8 t49) ?_
        refine oK 57 z fun v57 h_48 z => ?_
        refine oK 58 z fun v58 h_50 z => ?_
        refine oA 8 v58 ?_
        refine oV [(0, strA t0), (8, v58), (9, v29), (11, .int .i64 t50)] (n47 (W.r ?_))
        refine oA 59 (.int .i64 t50) ?_
        refine oA 1 (.int .i64 t50) ?_
        refine oV [(0, strA t0), (1, .int .i64 t50), (8, v58), (9, v29)] (n17 (n14 ?_))
        exact gW _ (ih14 _ _ _ _ z)
     cases t33 with
     | true =>
      replace z := ifB_t z
      refine oA 35 (strA t0) ?_
      refine oA 36 (.int .i64 t1_15) ?_
      refine oX 37 9 .i64 z fun t37 z => ?_
      refine oB 38 z fun t38 z => ?_
      refine oA 39 (.bool t38) ?_
      exact lW _ (J28 _ _ z)
     | false =>
      replace z := ifB_f z
      refine WL.o (some 35) ?_
      refine WL.o (some 36) ?_
      refine WL.o (some 37) ?_
      refine WL.o (some 38) ?_
      refine oA 39 (.bool false) ?_
      exact lW _ (J28 _ _ z)
   exact gW _ (L14 _ _ _ _ _ z)
 cases t16 with
 | true =>
  replace z := ifB_t z
  refine WL.o (some 18) ?_
  refine WL.o (some 19) ?_
  refine WL.o (some 20) ?_
  refine WL.o (some 21) ?_
  refine oA 22 (.bool true) ?_
  exact lW _ (J7 _ _ z)
 | false =>
  replace z := ifB_f z
  refine oA 18 (strA t0) ?_
  refine oA 19 (.int .i64 t1) ?_
  refine oX 20 9 .i64 z fun t20 z => ?_
  refine oB 21 z fun t21 z => ?_
  refine oA 22 (.bool t21) ?_
  exact lW _ (J7 _ _ z)
noncomputable def ref09_bad (_ : CallF) (_ : Nat) (t0 : Int) (h : AHeap) : R :=
 lett (newH h 27 [.int .i64 0, .int .i64 0]) fun h_2 =>
 obind (stRow h_2 2 ([.int .i64 6, .int .i64 t0] : List AV) (newP h)) fun h_5 =>
 obind (ldRow h_5 2 (newP h)) fun w2 =>
 some (.ret (.agg w2), h_5)
theorem ref09_bad_ok {call : CallF} (_ : SaysAll Pg call) {n : Nat} {t0 : Int} {h : AHeap} {rR : ARes} {hR : AHeap} (z : ref09_bad call n t0 h = some (rR, hR)) : Says Pg 34 [.int .i64 t0] h rR hR := by
 unfold ref09_bad at z
 refine sO Try.func34 fun w0 m0 => ?_
 refine wW [(0, .int .i64 t0)] ?_
 refine oG fun n1 => W.r ?_
 refine oN 2 z fun h_2 z => ?_
 refine oV [(0, .int .i64 t0), (2, newP h)] (n1 ?_)
 refine oG fun n4 => W.r ?_
 refine oA 3 (.int .i64 t0) ?_
 refine oA 4 (.agg ([.int .i64 6, .int .i64 t0] : List AV)) ?_
 refine oW 27 (.agg ([.int .i64 6, .int .i64 t0] : List AV)) z fun h_5 z => ?_
 refine oV [(2, newP h)] (n4 (oY ?_))
 obtain ⟨w2, e7, z⟩ := oS z
 exact lZ z [.cell 2 27] [.agg w2] (rY e7 res_nil)
set_option maxHeartbeats 4000000
set_option maxRecDepth 20000
noncomputable def ref09_Tree (call : CallF) (_ : Nat) (t0 : List AV) (h : AHeap) : R :=
 outK (opBox h 35 (some (.agg t0))) fun v1 h_2 =>
 lett (newH h_2 41 [.int .i64 0, .int .u64 0, .int .u64 0, .int .u64 0, .int .u64 0, .nsl]) fun h_4 =>
 lett (newH h_4 27 [.int .i64 0, .int .i64 0]) fun h_6 =>
 obind (fldP 0 v1) fun t9 =>
 obind (ldCell h_6 t9) fun v10 =>
 obind (avInt .i64 v10) fun t10 =>
 lett ((t10 : Int) != 1) fun (t11 : Bool) =>
 lett (fun (t16 : Bool) (h_14 : AHeap) =>
  lett (fun (t21 : Bool) (h_17 : AHeap) =>
   ifB t21
   (
    obind (stRow h_17 6 ([.int .i64 0, .int .u64 0, .int .u64 0, .int .u64 0, .int .u64 0, .nsl] : List AV) (newP h_2)) fun h_21 =>
    obind (stRow h_21 2 ([.int .i64 2, .int .i64 0] : List AV) (newP h_4)) fun h_23 =>
    obind (ldRow h_23 6 (newP h_2)) fun w2 =>
    obind (ldRow h_23 2 (newP h_4)) fun w3 =>
    some (.ret (.tup [.agg w2, .agg w3]), h_23))
   (
    obind (fldP 1 v1) fun t24 =>
    obind (ldCell h_17 t24) fun v25 =>
    obind (avStr v25) fun t25 =>
    lett (decide ((lenS t25) > 64)) fun (t27 : Bool) =>
    ifB t27
    (
     obind (stRow h_17 6 ([.int .i64 0, .int .u64 0, .int .u64 0, .int .u64 0, .int .u64 0, .nsl] : List AV) (newP h_2)) fun h_34 =>
     obind (stRow h_34 2 ([.int .i64 3, .int .i64 64] : List AV) (newP h_4)) fun h_36 =>
     obind (ldRow h_36 6 (newP h_2)) fun w2_39 =>
     obind (ldRow h_36 2 (newP h_4)) fun w3_41 =>
     some (.ret (.tup [.agg w2_39, .agg w3_41]), h_36))
    (
     obind (fldP 0 v1) fun t30 =>
     obind (ldCell h_17 t30) fun v31 =>
     obind (avInt .i64 v31) fun t31 =>
     lett ((t31 : Int) == 1) fun (t32 : Bool) =>
     ifB t32
     (
      obind (fldP 1 v1) fun t33 =>
      obind (ldCell h_17 t33) fun v34 =>
      obind (avStr v34) fun t34 =>
      callN (call 41 [strA t34] h_17) fun r35 h_52 =>
      obind (avAgg r35) fun t35 =>
      obind (stRow h_52 6 t35 (newP h_2)) fun h_55 =>
      obind (stRow h_55 2 ([.int .i64 0, .int .i64 0] : List AV) (newP h_4)) fun h_57 =>
      obind (ldRow h_57 6 (newP h_2)) fun w2_60 =>
      obind (ldRow h_57 2 (newP h_4)) fun w3_62 =>
      some (.ret (.tup [.agg w2_60, .agg w3_62]), h_57))
     (
      obind (fldP 0 v1) fun t37 =>
      obind (ldCell h_17 t37) fun v38 =>
      obind (avInt .i64 v38) fun t38 =>
      lett ((t38 : Int) == 2) fun (t39 : Bool) =>
      ifB t39
      (
       obind (fldP 1 v1) fun t41 =>
       obind (ldCell h_17 t41) fun v42 =>
       obind (avStr v42) fun t42 =>
       callN (call 42 [strA t42] h_17) fun r43 h_73 =>
       obind (extT 0 r43) fun v44 =>
       obind (avAgg v44) fun t44 =>
       obind (extT 1 r43) fun v45 =>
       obind (avBool v45) fun t45 =>
       lett (newH h_73 41 [.int .i64 0, .int .u64 0, .int .u64 0, .int .u64 0, .int .u64 0, .nsl]) fun h_79 =>
       obind (stRow h_79 6 t44 (newP h_73)) fun h_81 =>
       lett (!t45) fun (t47 : Bool) =>
       ifB t47
       (
        obind (fldP 1 v1) fun t49 =>
        obind (ldCell h_81 t49) fun v50 =>
        obind (avStr v50) fun t50 =>
        callN (call 34 [.int .i64 (lenS t50)] h_81) fun r52 h_90 =>
        obind (avAgg r52) fun t52 =>
        obind (stRow h_90 6 ([.int .i64 0, .int .u64 0, .int .u64 0, .int .u64 0, .int .u64 0, .nsl] : List AV) (newP h_2)) fun h_93 =>
        obind (stRow h_93 2 t52 (newP h_4)) fun h_95 =>
        obind (ldRow h_95 6 (newP h_2)) fun w2_98 =>
        obind (ldRow h_95 2 (newP h_4)) fun w3_100 =>
        some (.ret (.tup [.agg w2_98, .agg w3_100]), h_95))
       (
        obind (ldRow h_81 6 (newP h_73)) fun t53 =>
        obind (stRow h_81 6 t53 (newP h_2)) fun h_103 =>
        obind (stRow h_103 2 ([.int .i64 0, .int .i64 0] : List AV) (newP h_4)) fun h_105 =>
        obind (ldRow h_105 6 (newP h_2)) fun w2_108 =>
        obind (ldRow h_105 2 (newP h_4)) fun w3_110 =>
        some (.ret (.tup [.agg w2_108, .agg w3_110]), h_105)))
      (
       obind (fldP 1 v1) fun t56 =>
       obind (ldCell h_17 t56) fun v57 =>
       obind (avStr v57) fun t57 =>
       callN (call 43 [strA t57, .int .i64 0] h_17) fun r58 h_115 =>
       obind (extT 0 r58) fun v59 =>
       obind (avAgg v59) fun t59 =>
       obind (extT 1 r58) fun v60 =>
       obind (avInt .i64 v60) fun t60 =>
       obind (extT 2 r58) fun v61 =>
       obind (avBool v61) fun t61 =>
       lett (newH h_115 41 [.int .i64 0, .int .u64 0, .int .u64 0, .int .u64 0, .int .u64 0, .nsl]) fun h_123 =>
       obind (stRow h_123 6 t59 (newP h_115)) fun h_125 =>
       lett (!t61) fun (t63 : Bool) =>
       lett (fun (t70 : Bool) (h_130 : AHeap) =>
        ifB t70
        (
         callN (call 34 [.int .i64 t60] h_130) fun r73 h_134 =>
         obind (avAgg r73) fun t73 =>
         obind (stRow h_134 6 ([.int .i64 0, .int .u64 0, .int .u64 0, .int .u64 0, .int .u64 0, .nsl] : List AV) (newP h_2)) fun h_137 =>
         obind (stRow h_137 2 t73 (newP h_4)) fun h_139 =>
         obind (ldRow h_139 6 (newP h_2)) fun w2_142 =>
         obind (ldRow h_139 2 (newP h_4)) fun w3_144 =>
         some (.ret (.tup [.agg w2_142, .agg w3_144]), h_139))
        (
         obind (ldRow h_130 6 (newP h_115)) fun t74 =>
         obind (stRow h_130 6 t74 (newP h_2)) fun h_147 =>
         obind (stRow h_147 2 ([.int .i64 0, .int .i64 0] : List AV) (newP h_4)) fun h_149 =>
         obind (ldRow h_149 6 (newP h_2)) fun w2_152 =>
         obind (ldRow h_149 2 (newP h_4)) fun w3_154 =>
         some (.ret (.tup [.agg w2_152, .agg w3_154]), h_149))) fun j70 =>
       ifB t63
       (
        j70 true h_125)
       (
        obind (fldP 1 v1) fun t66 =>
        obind (ldCell h_125 t66) fun v67 =>
        obind (avStr v67) fun t67 =>
        lett (decide (t60 < (lenS t67))) fun (t69 : Bool) =>
        j70 t69 h_125)))))) fun j21 =>
  ifB t16
  (
   obind (fldP 0 v1) fun t18 =>
   obind (ldCell h_14 t18) fun v19 =>
   obind (avInt .i64 v19) fun t19 =>
   lett ((t19 : Int) != 3) fun (t20 : Bool) =>
   j21 t20 h_14)
  (
   j21 false h_14)) fun j16 =>
 ifB t11
 (
  obind (fldP 0 v1) fun t13 =>
  obind (ldCell h_6 t13) fun v14 =>
  obind (avInt .i64 v14) fun t14 =>
  lett ((t14 : Int) != 2) fun (t15 : Bool) =>
  j16 t15 h_6)
 (
  j16 false h_6)
theorem ref09_Tree_ok {call : CallF} (hc : SaysAll Pg call) {n : Nat} {t0 : List AV} {h : AHeap} {rR : ARes} {hR : AHeap} (z : ref09_Tree call n t0 h = some (rR, hR)) : Says Pg 22 [.agg t0] h rR hR := by
 unfold ref09_Tree at z
 refine sO Try.func22 fun w0 m0 => ?_
 refine wW [(0, .agg t0)] ?_
 refine oG fun n1 => W.r ?_
 refine oK 1 z fun v1 h_2 z => ?_
 refine oN 2 z fun h_4 z => ?_
 refine oN 3 z fun h_6 z => ?_
 refine oV [(1, v1), (2, newP h_2), (3, newP h_4)] (n1 ?_)
 refine oH fun n8 q8 => ?_
 refine W.s (fun K9 n9 _ _ _ => ?_)
 refine W.r ?_
 refine oF 9 35 0 z fun t9 z => ?_
 refine oLi 10 3 z fun t10 z => ?_
 refine oB 11 z fun t11 z => ?_
 refine oA 12 (.bool t11) ?_
 obtain ⟨j16, e15, z⟩ := lS z
 have J16 : ∀ (t16 : Bool) (h_14 : AHeap), j16 t16 h_14 = some (rR, hR) → WL Pg w0 m0 (Func.ntmps Try.f22) (Code.ops (Code.p1 (Code.p1 (Code.p2 (codeOf Try.f22))))) 8 K9 [(1, v1), (2, newP h_2), (3, newP h_4), (16, .bool t16)] [] h_14 := by
  intro t16 h_14 z
  rw [e15] at z
  refine oA 17 (.bool t16) ?_
  obtain ⟨j21, e18, z⟩ := lS z
  have J19 : ∀ (t21 : Bool) (h_17 : AHeap), j21 t21 h_17 = some (rR, hR) → WL Pg w0 m0 (Func.ntmps Try.f22) (Code.ops (Code.p1 (Code.p1 (Code.p2 (codeOf Try.f22))))) 13 K9 [(1, v1), (2, newP h_2), (3, newP h_4), (21, .bool t21)] [] h_17 := by
   intro t21 h_17 z
   rw [e18] at z
   refine oV [(1, v1), (2, newP h_2), (3, newP h_4), (21, .bool t21)] (n9 ?_)
   cases t21 with
   | true =>
    refine oT z fun z => ?_
    refine oG fun n20 => W.r ?_
    refine oA 22 (.agg ([.int .i64 0, .int .u64 0, .int .u64 0, .int .u64 0, .int .u64 0, .nsl] : List AV)) ?_
    refine oA 23 (.agg ([.int .i64 2, .int .i64 0] : List AV)) ?_
    refine oW 41 (.agg ([.int .i64 0, .int .u64 0, .int .u64 0, .int .u64 0, .int .u64 0, .nsl] : List AV)) z fun h_21 z => ?_
    refine oW 27 (.agg ([.int .i64 2, .int .i64 0] : List AV)) z fun h_23 z => ?_
    refine oV [(2, newP h_2), (3, newP h_4)] (n20 (oY (q8 ?_)))
    obtain ⟨w2, e25, z⟩ := oS z
    obtain ⟨w3, e26, z⟩ := oS z
    exact lZ z [.cell 2 41, .cell 3 27] [.agg w2, .agg w3] (rY e25 (rY e26 res_nil))
   | false =>
    refine oU z fun z => ?_
    refine oZ (n8 ?_)
    refine oH fun n27 q27 => ?_
    refine oG fun n28 => W.r ?_
    refine oF 24 35 1 z fun t24 z => ?_
    refine oLs 25 9 z fun t25 z => ?_
    refine oA 26 (.int .i64 (lenS t25)) ?_
    refine oB 27 z fun t27 z => ?_
    refine oV [(1, v1), (2, newP h_2), (3, newP h_4), (27, .bool t27)] (n28 ?_)
    cases t27 with
    | true =>
     refine oT z fun z => ?_
     refine oG fun n33 => W.r ?_
     refine oA 28 (.agg ([.int .i64 0, .int .u64 0, .int .u64 0, .int .u64 0, .int .u64 0, .nsl] : List AV)) ?_
     refine oA 29 (.agg ([.int .i64 3, .int .i64 64] : List AV)) ?_
     refine oW 41 (.agg ([.int .i64 0, .int .u64 0, .int .u64 0, .int .u64 0, .int .u64 0, .nsl] : List AV)) z fun h_34 z => ?_
     refine oW 27 (.agg ([.int .i64 3, .int .i64 64] : List AV)) z fun h_36 z => ?_
     refine oV [(2, newP h_2), (3, newP h_4)] (n33 (oY (q27 ?_)))
     obtain ⟨w2_39, e38, z⟩ := oS z
     obtain ⟨w3_41, e40, z⟩ := oS z
     exact lZ z [.cell 2 41, .cell 3 27] [.agg w2_39, .agg w3_41] (rY e38 (rY e40 res_nil))
    | false =>
     refine oU z fun z => ?_
     refine oZ (n27 ?_)
     refine oH fun n42 q42 => ?_
     refine oG fun n43 => W.r ?_
     refine oF 30 35 0 z fun t30 z => ?_
     refine oLi 31 3 z fun t31 z => ?_
     refine oB 32 z fun t32 z => ?_
     refine oV [(1, v1), (2, newP h_2), (3, newP h_4), (32, .bool t32)] (n43 ?_)
     cases t32 with
     | true =>
      refine oT z fun z => ?_
      refine oG fun n48 => W.r ?_
      refine oF 33 35 1 z fun t33 z => ?_
      refine oLs 34 9 z fun t34 z => ?_
      refine oCa hc 35 z fun t35 h_52 z => ?_
      refine oA 36 (.agg ([.int .i64 0, .int .i64 0] : List AV)) ?_
      refine oW 41 (.agg t35) z fun h_55 z => ?_
      refine oW 27 (.agg ([.int .i64 0, .int .i64 0] : List AV)) z fun h_57 z => ?_
      refine oV [(2, newP h_2), (3, newP h_4)] (n48 (oY (q42 ?_)))
      obtain ⟨w2_60, e59, z⟩ := oS z
      obtain ⟨w3_62, e61, z⟩ := oS z
      exact lZ z [.cell 2 41, .cell 3 27] [.agg w2_60, .agg w3_62] (rY e59 (rY e61 res_nil))
     | false =>
      refine oU z fun z => ?_
      refine oZ (n42 ?_)
      refine oH fun n63 q63 => ?_
      refine oG fun n64 => W.r ?_
      refine oF 37 35 0 z fun t37 z => ?_
      refine oLi 38 3 z fun t38 z => ?_
      refine oB 39 z fun t39 z => ?_
      refine oV [(1, v1), (2, newP h_2), (3, newP h_4), (39, .bool t39)] (n64 ?_)
      cases t39 with
      | true =>
       refine oT z fun z => ?_
       refine oG fun n69 => W.r ?_
       refine oF 41 35 1 z fun t41 z => ?_
       refine oLs 42 9 z fun t42 z => ?_
       refine oC hc (some 43) z fun r43 h_73 z => ?_
       refine oA 40 r43 ?_
       refine oEa 44 z fun t44 z => ?_
       refine oEb 45 z fun t45 z => ?_
       refine oN 4 z fun h_79 z => ?_
       refine oW 41 (.agg t44) z fun h_81 z => ?_
       refine oA 5 (.bool t45) ?_
       refine oV [(1, v1), (2, newP h_2), (3, newP h_4), (4, newP h_73), (5, .bool t45)] (n69 ?_)
       refine oH fun n83 q83 => ?_
       refine oG fun n84 => W.r ?_
       refine oA 46 (.bool t45) ?_
       refine oB 47 z fun t47 z => ?_
       refine oV [(1, v1), (2, newP h_2), (3, newP h_4), (4, newP h_73), (47, .bool t47)] (n84 ?_)
       cases t47 with
       | true =>
        refine oT z fun z => ?_
        refine oG fun n86 => W.r ?_
        refine oA 48 (.agg ([.int .i64 0, .int .u64 0, .int .u64 0, .int .u64 0, .int .u64 0, .nsl] : List AV)) ?_
        refine oF 49 35 1 z fun t49 z => ?_
        refine oLs 50 9 z fun t50 z => ?_
        refine oA 51 (.int .i64 (lenS t50)) ?_
        refine oCa hc 52 z fun t52 h_90 z => ?_
        refine oW 41 (.agg ([.int .i64 0, .int .u64 0, .int .u64 0, .int .u64 0, .int .u64 0, .nsl] : List AV)) z fun h_93 z => ?_
        refine oW 27 (.agg t52) z fun h_95 z => ?_
        refine oV [(2, newP h_2), (3, newP h_4)] (n86 (oY (q83 (q63 ?_))))
        obtain ⟨w2_98, e97, z⟩ := oS z
        obtain ⟨w3_100, e99, z⟩ := oS z
        exact lZ z [.cell 2 41, .cell 3 27] [.agg w2_98, .agg w3_100] (rY e97 (rY e99 res_nil))
       | false =>
        refine oU z fun z => ?_
        refine oZ (n83 ?_)
        refine oG fun n101 => W.r ?_
        refine oR 53 41 z fun t53 z => ?_
        refine oA 54 (.agg ([.int .i64 0, .int .i64 0] : List AV)) ?_
        refine oW 41 (.agg t53) z fun h_103 z => ?_
        refine oW 27 (.agg ([.int .i64 0, .int .i64 0] : List AV)) z fun h_105 z => ?_
        refine oV [(2, newP h_2), (3, newP h_4)] (n101 (oY (q63 ?_)))
        obtain ⟨w2_108, e107, z⟩ := oS z
        obtain ⟨w3_110, e109, z⟩ := oS z
        exact lZ z [.cell 2 41, .cell 3 27] [.agg w2_108, .agg w3_110] (rY e107 (rY e109 res_nil))
      | false =>
       refine oU z fun z => ?_
       refine oZ (n63 ?_)
       refine oG fun n111 => W.r ?_
       refine oF 56 35 1 z fun t56 z => ?_
       refine oLs 57 9 z fun t57 z => ?_
       refine oC hc (some 58) z fun r58 h_115 z => ?_
       refine oA 55 r58 ?_
       refine oEa 59 z fun t59 z => ?_
       refine oEi 60 z fun t60 z => ?_
       refine oEb 61 z fun t61 z => ?_
       refine oN 6 z fun h_123 z => ?_
       refine oW 41 (.agg t59) z fun h_125 z => ?_
       refine oA 7 (.int .i64 t60) ?_
       refine oA 8 (.bool t61) ?_
       refine oV [(1, v1), (2, newP h_2), (3, newP h_4), (6, newP h_115), (7, .int .i64 t60), (8, .bool t61)] (n111 ?_)
       refine oH fun n127 q127 => ?_
       refine W.s (fun K128 n128 _ _ _ => ?_)
       refine W.r ?_
       refine oA 62 (.bool t61) ?_
       refine oB 63 z fun t63 z => ?_
       refine oA 64 (.bool t63) ?_
       obtain ⟨j70, e131, z⟩ := lS z
       have J132 : ∀ (t70 : Bool) (h_130 : AHeap), j70 t70 h_130 = some (rR, hR) → WL Pg w0 m0 (Func.ntmps Try.f22) (Code.ops (Code.p1 (Code.p1 (Code.p2 (Code.p2 (Code.p2 (Code.p2 (Code.p2 (Code.p2 (codeOf Try.f22)))))))))) 9 K128 [(2, newP h_2), (3, newP h_4), (6, newP h_115), (7, .int .i64 t60), (70, .bool t70)] [] h_130 := by
        intro t70 h_130 z
        rw [e131] at z
        refine oV [(2, newP h_2), (3, newP h_4), (6, newP h_115), (7, .int .i64 t60), (70, .bool t70)] (n128 ?_)
        cases t70 with
        | true =>
         refine oT z fun z => ?_
         refine oG fun n133 => W.r ?_
         refine oA 71 (.agg ([.int .i64 0, .int .u64 0, .int .u64 0, .int .u64 0, .int .u64 0, .nsl] : List AV)) ?_
         refine oA 72 (.int .i64 t60) ?_
         refine oCa hc 73 z fun t73 h_134 z => ?_
         refine oW 41 (.agg ([.int .i64 0, .int .u64 0, .int .u64 0, .int .u64 0, .int .u64 0, .nsl] : List AV)) z fun h_137 z => ?_
         refine oW 27 (.agg t73) z fun h_139 z => ?_
         refine oV [(2, newP h_2), (3, newP h_4)] (n133 (oY (q127 ?_)))
         obtain ⟨w2_142, e141, z⟩ := oS z
         obtain ⟨w3_144, e143, z⟩ := oS z
         exact lZ z [.cell 2 41, .cell 3 27] [.agg w2_142, .agg w3_144] (rY e141 (rY e143 res_nil))
        | false =>
         refine oU z fun z => ?_
         refine oZ (n127 ?_)
         refine oG fun n145 => W.r ?_
         refine oR 74 41 z fun t74 z => ?_
         refine oA 75 (.agg ([.int .i64 0, .int .i64 0] : List AV)) ?_
         refine oW 41 (.agg t74) z fun h_147 z => ?_
         refine oW 27 (.agg ([.int .i64 0, .int .i64 0] : List AV)) z fun h_149 z => ?_
         refine oV [(2, newP h_2), (3, newP h_4)] (n145 (oY ?_))
         obtain ⟨w2_152, e151, z⟩ := oS z
         obtain ⟨w3_154, e153, z⟩ := oS z
         exact lZ z [.cell 2 41, .cell 3 27] [.agg w2_152, .agg w3_154] (rY e151 (rY e153 res_nil))
       cases t63 with
       | true =>
        replace z := ifB_t z
        refine WL.o (some 65) ?_
        refine WL.o (some 66) ?_
        refine WL.o (some 67) ?_
        refine WL.o (some 68) ?_
        refine WL.o (some 69) ?_
        refine oA 70 (.bool true) ?_
        exact lW _ (J132 _ _ z)
       | false =>
        replace z := ifB_f z
        refine oA 65 (.int .i64 t60) ?_
        refine oF 66 35 1 z fun t66 z => ?_
        refine oLs 67 9 z fun t67 z => ?_
        refine oA 68 (.int .i64 (lenS t67)) ?_
        refine oB 69 z fun t69 z => ?_
        refine oA 70 (.bool t69) ?_
        exact lW _ (J132 _ _ z)
  cases t16 with
  | true =>
   replace z := ifB_t z
   refine oF 18 35 0 z fun t18 z => ?_
   refine oLi 19 3 z fun t19 z => ?_
   refine oB 20 z fun t20 z => ?_
   refine oA 21 (.bool t20) ?_
   exact lW _ (J19 _ _ z)
  | false =>
   replace z := ifB_f z
   refine WL.o (some 18) ?_
   refine WL.o (some 19) ?_
   refine WL.o (some 20) ?_
   refine oA 21 (.bool false) ?_
   exact lW _ (J19 _ _ z)
 cases t11 with
 | true =>
  replace z := ifB_t z
  refine oF 13 35 0 z fun t13 z => ?_
  refine oLi 14 3 z fun t14 z => ?_
  refine oB 15 z fun t15 z => ?_
  refine oA 16 (.bool t15) ?_
  exact lW _ (J16 _ _ z)
 | false =>
  replace z := ifB_f z
  refine WL.o (some 13) ?_
  refine WL.o (some 14) ?_
  refine WL.o (some 15) ?_
  refine oA 16 (.bool false) ?_
  exact lW _ (J16 _ _ z)
noncomputable def ref09_Parse_L1b (t0 : Bytes) (t20 : Bytes) (k116 : Int → AHeap → R) (self : Int → AHeap → R) (t7_139 : Int) (h_140 : AHeap) : R :=
 lett (fun (t39 : Bool) (h_144 : AHeap) =>
  ifB t39
  (
   lett (IntKind.i64.wrap (t7_139 + 1)) fun (t41 : Int) =>
   self t41 h_144)
  (
   k116 t7_139 h_144)) fun k143 =>
 lett (decide (t7_139 < (lenS t20))) fun (t24 : Bool) =>
 ifB t24
 (
  lett (decide (t7_139 < (lenS t0))) fun (t29 : Bool) =>
  ifB t29
  (
   obind (idxS t0 t7_139) fun t34 =>
   obind (idxS t20 t7_139) fun t37 =>
   lett ((t34 : Int) == t37) fun (t38 : Bool) =>
   k143 t38 h_140)
  (
   k143 false h_140))
 (
  k143 false h_140)
noncomputable def ref09_Parse_L1 (t0 : Bytes) (t20 : Bytes) (k116 : Int → AHeap → R) : Nat → Int → AHeap → R := iterR (fun _ _ => none) (ref09_Parse_L1b t0 t20 k116)
theorem ref09_Parse_L1_s (t0 : Bytes) (t20 : Bytes) (k116 : Int → AHeap → R) (m : Nat) : ref09_Parse_L1 t0 t20 k116 (m + 1) = ref09_Parse_L1b t0 t20 k116 (ref09_Parse_L1 t0 t20 k116 m) := rfl
noncomputable def ref09_Parse_L0b (call : CallF) (n : Nat) (t0 : Bytes) (h : AHeap) (h_2 : AHeap) (h_4 : AHeap) (k14 : AHeap → R) (self : Int → AHeap → R) (t5 : Int) (h_100 : AHeap) : R :=
 lett (decide (t5 ≤ 3)) fun (t16 : Bool) =>
 ifB t16
 (
  lett (fun  (h_107 : AHeap) =>
   lett (IntKind.i64.wrap (t5 + 1)) fun (t18 : Int) =>
   self t18 h_107) fun k106 =>
  callN (call 46 [.int .i64 t5] h_100) fun r20 h_110 =>
  obind (avStr r20) fun t20 =>
  lett (fun (t7 : Int) (h_117 : AHeap) =>
   lett ((t7 : Int) == 0) fun (t43 : Bool) =>
   ifB t43
   (
    k106 h_117)
   (
    lett (decide (t7 < (lenS t20))) fun (t47 : Bool) =>
    ifB t47
    (
     callN (call 34 [.int .i64 t7] h_117) fun r50 h_125 =>
     obind (avAgg r50) fun t50 =>
     obind (stRow h_125 2 ([.int .i64 0, .str 0 0] : List AV) (newP h)) fun h_128 =>
     obind (stRow h_128 2 t50 (newP h_2)) fun h_130 =>
     obind (ldRow h_130 2 (newP h)) fun w2_133 =>
     obind (ldRow h_130 2 (newP h_2)) fun w3_135 =>
     some (.ret (.tup [.agg w2_133, .agg w3_135]), h_130))
    (
     obind (stRow h_117 1 [.int .i64 t5] (AV.ptr (AHeap.next h_4) 0)) fun h_136 =>
     k106 h_136))) fun k116 =>
  ref09_Parse_L1 t0 t20 k116 n 0 h_110)
 (
  k14 h_100)
noncomputable def ref09_Parse_L0 (call : CallF) (n : Nat) (t0 : Bytes) (h : AHeap) (h_2 : AHeap) (h_4 : AHeap) (k14 : AHeap → R) : Nat → Int → AHeap → R := iterR (fun _ _ => none) (ref09_Parse_L0b call n t0 h h_2 h_4 k14)
theorem ref09_Parse_L0_s (call : CallF) (n : Nat) (t0 : Bytes) (h : AHeap) (h_2 : AHeap) (h_4 : AHeap) (k14 : AHeap → R) (m : Nat) : ref09_Parse_L0 call n t0 h h_2 h_4 k14 (m + 1) = ref09_Parse_L0b call n t0 h h_2 h_4 k14 (ref09_Parse_L0 call n t0 h h_2 h_4 k14 m) := rfl
noncomputable def ref09_Parse (call : CallF) (n : Nat) (t0 : Bytes) (h : AHeap) : R :=
 lett (newH h 35 [.int .i64 0, .str 0 0]) fun h_2 =>
 lett (newH h_2 27 [.int .i64 0, .int .i64 0]) fun h_4 =>
 lett (newH h_4 35 [.int .i64 0, .str 0 0]) fun h_7 =>
 obind (stRow h_7 2 ([.int .i64 1, .str 0 0] : List AV) (newP h_4)) fun h_9 =>
 lett (fun  (h_15 : AHeap) =>
  obind (ldCell h_15 (AV.ptr (AHeap.next h_4) 0)) fun v56 =>
  obind (avInt .i64 v56) fun t56 =>
  callN (call 46 [.int .i64 t56] h_15) fun r57 h_19 =>
  obind (avStr r57) fun t57 =>
  callN (call 33 [strA t0, .int .i64 (lenS t57)] h_19) fun r59 h_22 =>
  obind (extT 0 r59) fun v60 =>
  obind (avStr v60) fun t60 =>
  obind (extT 1 r59) fun v61 =>
  obind (extT 2 r59) fun v62 =>
  obind (avInt .i64 v62) fun t62 =>
  obind (extT 3 r59) fun v63 =>
  obind (avBool v63) fun t63 =>
  lett (!t63) fun (t65 : Bool) =>
  lett (fun (t71 : Bool) (h_34 : AHeap) =>
   ifB t71
   (
    callN (call 34 [.int .i64 t62] h_34) fun r74 h_38 =>
    obind (avAgg r74) fun t74 =>
    obind (stRow h_38 2 ([.int .i64 0, .str 0 0] : List AV) (newP h)) fun h_41 =>
    obind (stRow h_41 2 t74 (newP h_2)) fun h_43 =>
    obind (ldRow h_43 2 (newP h)) fun w2 =>
    obind (ldRow h_43 2 (newP h_2)) fun w3 =>
    some (.ret (.tup [.agg w2, .agg w3]), h_43))
   (
    obind (stRow h_34 1 [strA t60] (AV.ptr (AHeap.next h_4) 1)) fun h_48 =>
    obind (ldRow h_48 2 (newP h_4)) fun t78 =>
    callN (call 22 [.agg t78] h_48) fun r79 h_52 =>
    obind (extT 0 r79) fun v80 =>
    obind (avAgg v80) fun t80 =>
    obind (extT 1 r79) fun v81 =>
    obind (avAgg v81) fun t81 =>
    lett (newH h_52 41 [.int .i64 0, .int .u64 0, .int .u64 0, .int .u64 0, .int .u64 0, .nsl]) fun h_58 =>
    lett (newH h_58 27 [.int .i64 0, .int .i64 0]) fun h_60 =>
    obind (stRow h_60 6 t80 (newP h_52)) fun h_62 =>
    obind (stRow h_62 2 t81 (newP h_58)) fun h_64 =>
    obind (ldCell h_64 (AV.ptr (AHeap.next h_58) 0)) fun v83 =>
    obind (avInt .i64 v83) fun t83 =>
    lett ((t83 : Int) != 0) fun (t84 : Bool) =>
    ifB t84
    (
     obind (ldCell h_64 (AV.ptr (AHeap.next h_58) 0)) fun v87 =>
     obind (avInt .i64 v87) fun t87 =>
     obind (ldCell h_64 (AV.ptr (AHeap.next h_58) 1)) fun v90 =>
     obind (avInt .i64 v90) fun t90 =>
     obind (idxP 1 v61 t90) fun t91 =>
     obind (ldCell h_64 t91) fun v92 =>
     obind (avInt .i64 v92) fun t92 =>
     obind (stRow h_64 2 ([.int .i64 0, .str 0 0] : List AV) (newP h)) fun h_79 =>
     chk (reLoad Pg h_79 3 t91 (.int .i64 t92) && (reLoad Pg h_79 3 (AV.ptr (AHeap.next h_58) 1) (.int .i64 t90) && (reLoad Pg h_79 25 (AV.ptr (AHeap.next h_58) 0) (.int .i64 t87) && true))) <|
     obind (stRow h_79 2 ([.int .i64 t87, .int .i64 t92] : List AV) (newP h_2)) fun h_82 =>
     obind (ldRow h_82 2 (newP h)) fun w2_85 =>
     obind (ldRow h_82 2 (newP h_2)) fun w3_87 =>
     some (.ret (.tup [.agg w2_85, .agg w3_87]), h_82))
    (
     obind (ldRow h_64 2 (newP h_4)) fun t94 =>
     obind (stRow h_64 2 t94 (newP h)) fun h_90 =>
     obind (stRow h_90 2 ([.int .i64 0, .int .i64 0] : List AV) (newP h_2)) fun h_92 =>
     obind (ldRow h_92 2 (newP h)) fun w2_95 =>
     obind (ldRow h_92 2 (newP h_2)) fun w3_97 =>
     some (.ret (.tup [.agg w2_95, .agg w3_97]), h_92)))) fun j71 =>
  ifB t65
  (
   j71 true h_22)
  (
   lett (decide (t62 < (lenS t0))) fun (t70 : Bool) =>
   j71 t70 h_22)) fun k14 =>
 ref09_Parse_L0 call n t0 h h_2 h_4 k14 n 2 h_9
theorem ref09_Parse_ok {call : CallF} (hc : SaysAll Pg call) {n : Nat} {t0 : Bytes} {h : AHeap} {rR : ARes} {hR : AHeap} (z : ref09_Parse call n t0 h = some (rR, hR)) : Says Pg 25 [strA t0] h rR hR := by
 unfold ref09_Parse at z
 refine sO Try.func25 fun w0 m0 => ?_
 refine wW [(0, strA t0)] ?_
 refine oG fun n1 => W.r ?_
 refine oN 2 z fun h_2 z => ?_
 refine oN 3 z fun h_4 z => ?_
 refine oV [(0, strA t0), (2, newP h), (3, newP h_2)] (n1 ?_)
 refine oG fun n6 => W.r ?_
 refine oA 14 (.agg ([.int .i64 1, .str 0 0] : List AV)) ?_
 refine oN 4 z fun h_7 z => ?_
 refine oW 35 (.agg ([.int .i64 1, .str 0 0] : List AV)) z fun h_9 z => ?_
 refine oV [(0, strA t0), (2, newP h), (3, newP h_2), (4, newP h_4)] (n6 ?_)
 refine W.s (fun K11 n11 _ q11 _ => ?_)
 refine oG fun n12 => W.r ?_
 refine oA 5 (.int .i64 2) ?_
 refine oV [(0, strA t0), (2, newP h), (3, newP h_2), (4, newP h_4), (5, .int .i64 2)] (n12 ?_)
 obtain ⟨k14, e14, z⟩ := lS z
 have J14 : ∀  (h_15 : AHeap), k14 h_15 = some (rR, hR) → Go w0 m0 (Func.ntmps Try.f25) (K11 .normal) [(0, strA t0), (2, newP h), (3, newP h_2), (4, newP h_4)] [] h_15 := by
  intro  h_15 z
  rw [e14] at z
  refine n11 ?_
  refine oG fun n16 => W.r ?_
  refine oA 54 (strA t0) ?_
  refine oA 55 (AV.ptr (AHeap.next h_4) 0) ?_
  refine oLi 56 3 z fun t56 z => ?_
  refine oCs hc 57 z fun t57 h_19 z => ?_
  refine oA 58 (.int .i64 (lenS t57)) ?_
  refine oC hc (some 59) z fun r59 h_22 z => ?_
  refine oA 53 r59 ?_
  refine oEs 60 z fun t60 z => ?_
  refine oE 61 z fun v61 z => ?_
  refine oEi 62 z fun t62 z => ?_
  refine oEb 63 z fun t63 z => ?_
  refine oA 8 (strA t60) ?_
  refine oA 9 v61 ?_
  refine oA 10 (.int .i64 t62) ?_
  refine oA 11 (.bool t63) ?_
  refine oV [(0, strA t0), (2, newP h), (3, newP h_2), (4, newP h_4), (8, strA t60), (9, v61), (10, .int .i64 t62), (11, .bool t63)] (n16 ?_)
  refine oH fun n31 q31 => ?_
  refine W.s (fun K32 n32 _ _ _ => ?_)
  refine W.r ?_
  refine oA 64 (.bool t63) ?_
  refine oB 65 z fun t65 z => ?_
  refine oA 66 (.bool t65) ?_
  obtain ⟨j71, e35, z⟩ := lS z
  have J36 : ∀ (t71 : Bool) (h_34 : AHeap), j71 t71 h_34 = some (rR, hR) → WL Pg w0 m0 (Func.ntmps Try.f25) (Code.ops (Code.p1 (Code.p1 (Code.p2 (Code.p2 (Code.p2 (Code.p2 (codeOf Try.f25)))))))) 8 K32 [(2, newP h), (3, newP h_2), (4, newP h_4), (8, strA t60), (9, v61), (10, .int .i64 t62), (71, .bool t71)] [] h_34 := by
   intro t71 h_34 z
   rw [e35] at z
   refine oV [(2, newP h), (3, newP h_2), (4, newP h_4), (8, strA t60), (9, v61), (10, .int .i64 t62), (71, .bool t71)] (n32 ?_)
   cases t71 with
   | true =>
    refine oT z fun z => ?_
    refine oG fun n37 => W.r ?_
    refine oA 72 (.agg ([.int .i64 0, .str 0 0] : List AV)) ?_
    refine oA 73 (.int .i64 t62) ?_
    refine oCa hc 74 z fun t74 h_38 z => ?_
    refine oW 35 (.agg ([.int .i64 0, .str 0 0] : List AV)) z fun h_41 z => ?_
    refine oW 27 (.agg t74) z fun h_43 z => ?_
    refine oV [(2, newP h), (3, newP h_2)] (n37 (oY (q31 ?_)))
    obtain ⟨w2, e45, z⟩ := oS z
    obtain ⟨w3, e46, z⟩ := oS z
    exact lZ z [.cell 2 35, .cell 3 27] [.agg w2, .agg w3] (rY e45 (rY e46 res_nil))
   | false =>
    refine oU z fun z => ?_
    refine oZ (n31 ?_)
    refine oG fun n47 => W.r ?_
    refine oA 75 (strA t60) ?_
    refine oA 76 (AV.ptr (AHeap.next h_4) 1) ?_
    refine oW 9 (strA t60) z fun h_48 z => ?_
    refine oV [(2, newP h), (3, newP h_2), (4, newP h_4), (9, v61)] (n47 ?_)
    refine oG fun n50 => W.r ?_
    refine oR 78 35 z fun t78 z => ?_
    refine oC hc (some 79) z fun r79 h_52 z => ?_
    refine oA 77 r79 ?_
    refine oEa 80 z fun t80 z => ?_
    refine oEa 81 z fun t81 z => ?_
    refine oN 12 z fun h_58 z => ?_
    refine oN 13 z fun h_60 z => ?_
    refine oW 41 (.agg t80) z fun h_62 z => ?_
    refine oW 27 (.agg t81) z fun h_64 z => ?_
    refine oV [(2, newP h), (3, newP h_2), (4, newP h_4), (9, v61), (13, newP h_58)] (n50 ?_)
    refine oH fun n66 q66 => ?_
    refine oG fun n67 => W.r ?_
    refine oA 82 (AV.ptr (AHeap.next h_58) 0) ?_
    refine oLi 83 25 z fun t83 z => ?_
    refine oB 84 z fun t84 z => ?_
    refine oV [(2, newP h), (3, newP h_2), (4, newP h_4), (9, v61), (13, newP h_58), (84, .bool t84)] (n67 ?_)
    cases t84 with
    | true =>
     refine oT z fun z => ?_
     refine oG fun n71 => ?_
     refine W.draw (by kernel_rfl) (hc.ok w0) (plan := [0, 1, 2, 3, 4, 5, 6, 7, 8, 9, 10]) (by kernel_rfl) (by kernel_rfl) (by kernel_rfl) ?_
     refine WD.a 0 (some 85) (.agg ([.int .i64 0, .str 0 0] : List AV)) h_64 ?_
     refine WD.a 0 (some 86) (AV.ptr (AHeap.next h_58) 0) h_64 ?_
     replace z := oS z; obtain ⟨v87, e72, z⟩ := z
     replace z := oS z; obtain ⟨t87, c73, z⟩ := z
     have c73 := avInt_some c73
     subst c73
     refine WD.b 1 (some 87) (.int .i64 t87) h_64 (load_cell (P := Pg) (h := h_64) (t := 25) (by kernel_rfl) e72) ?_
     refine WD.a 0 (some 88) v61 h_64 ?_
     refine WD.a 0 (some 89) (AV.ptr (AHeap.next h_58) 1) h_64 ?_
     replace z := oS z; obtain ⟨v90, e74, z⟩ := z
     replace z := oS z; obtain ⟨t90, c75, z⟩ := z
     have c75 := avInt_some c75
     subst c75
     refine WD.b 1 (some 90) (.int .i64 t90) h_64 (load_cell (P := Pg) (h := h_64) (t := 3) (by kernel_rfl) e74) ?_
     obtain ⟨t91, e76, z⟩ := oS z
     refine WD.b 0 (some 91) t91 h_64 (index_row (P := Pg) (h := h_64) (t := 64) (e' := 3) (k := .i64) (by kernel_rfl) (by kernel_rfl) (by kernel_rfl) e76) ?_
     replace z := oS z; obtain ⟨v92, e77, z⟩ := z
     replace z := oS z; obtain ⟨t92, c78, z⟩ := z
     have c78 := avInt_some c78
     subst c78
     refine WD.b 1 (some 92) (.int .i64 t92) h_64 (load_cell (P := Pg) (h := h_64) (t := 3) (by kernel_rfl) e77) ?_
     refine WD.a 0 (some 93) (.agg ([.int .i64 t87, .int .i64 t92] : List AV)) h_64 ?_
     obtain ⟨h_79, e80, z⟩ := oS z
     obtain ⟨k81, z⟩ := chk_some z
     refine WD.eff (h' := h_79) (by kernel_rfl) (by kernel_rfl) (Eq.trans (by kernel_rfl) (store_row (P := Pg) (h := h_64) (t := 35) (v := (.agg ([.int .i64 0, .str 0 0] : List AV))) (by kernel_rfl) (by kernel_rfl) e80)) (k := 2) (by kernel_rfl) (fun _ => (Eq.trans (by kernel_rfl) k81)) (by decide) ?_
     obtain ⟨h_82, e83, z⟩ := oS z
     refine WD.eff (h' := h_82) (by kernel_rfl) (by kernel_rfl) (Eq.trans (by kernel_rfl) (store_row (P := Pg) (h := h_79) (t := 27) (v := (.agg ([.int .i64 t87, .int .i64 t92] : List AV))) (by kernel_rfl) (by kernel_rfl) e83)) (k := 2) (by kernel_rfl) (fun _ => (by kernel_rfl)) (by decide) ?_
     refine WD.nil ?_
     refine gW [(2, newP h), (3, newP h_2)] (n71 (oY (q66 ?_)))
     obtain ⟨w2_85, e84, z⟩ := oS z
     obtain ⟨w3_87, e86, z⟩ := oS z
     exact lZ z [.cell 2 35, .cell 3 27] [.agg w2_85, .agg w3_87] (rY e84 (rY e86 res_nil))
    | false =>
     refine oU z fun z => ?_
     refine oZ (n66 ?_)
     refine oG fun n88 => W.r ?_
     refine oR 94 35 z fun t94 z => ?_
     refine oA 95 (.agg ([.int .i64 0, .int .i64 0] : List AV)) ?_
     refine oW 35 (.agg t94) z fun h_90 z => ?_
     refine oW 27 (.agg ([.int .i64 0, .int .i64 0] : List AV)) z fun h_92 z => ?_
     refine oV [(2, newP h), (3, newP h_2)] (n88 (oY ?_))
     obtain ⟨w2_95, e94, z⟩ := oS z
     obtain ⟨w3_97, e96, z⟩ := oS z
     exact lZ z [.cell 2 35, .cell 3 27] [.agg w2_95, .agg w3_97] (rY e94 (rY e96 res_nil))
  cases t65 with
  | true =>
   replace z := ifB_t z
   refine WL.o (some 67) ?_
   refine WL.o (some 68) ?_
   refine WL.o (some 69) ?_
   refine WL.o (some 70) ?_
   refine oA 71 (.bool true) ?_
   exact lW _ (J36 _ _ z)
  | false =>
   replace z := ifB_f z
   refine oA 67 (.int .i64 t62) ?_
   refine oA 68 (strA t0) ?_
   refine oA 69 (.int .i64 (lenS t0)) ?_
   refine oB 70 z fun t70 z => ?_
   refine oA 71 (.bool t70) ?_
   exact lW _ (J36 _ _ z)
 refine W.blockK (by kernel_rfl) (fun K13 n13 s13 o13 q13 p13 => ?_)
 refine W.loopK (by kernel_rfl) (fun I99 K99 b99 n99 e99 q99 p99 => ?_)
 have L99 : ∀ (m : Nat) (t5 : Int) (h_100 : AHeap), ref09_Parse_L0 call n t0 h h_2 h_4 k14 m t5 h_100 = some (rR, hR) → Go w0 m0 (Func.ntmps Try.f25) I99 [(0, strA t0), (2, newP h), (3, newP h_2), (4, newP h_4), (5, .int .i64 t5)] [] h_100 := by
  intro m
  induction m with
  | zero => intro t5 h_100 z; cases z
  | succ m ih99 =>
   intro t5 h_100 z
   rw [ref09_Parse_L0_s] at z; unfold ref09_Parse_L0b at z
   refine b99 ?_
   refine W.s (fun _ n101 e101 _ _ => ?_)
   refine oG fun n102 => W.r ?_
   refine oA 15 (.int .i64 t5) ?_
   refine oB 16 z fun t16 z => ?_
   refine oV [(0, strA t0), (2, newP h), (3, newP h_2), (4, newP h_4), (5, .int .i64 t5), (16, .bool t16)] (n102 ?_)
   cases t16 with
   | true =>
    refine oT z fun z => ?_
    refine oZ (n101 ?_)
    refine W.s (fun K104 n104 _ q104 _ => ?_)
    obtain ⟨k106, e106, z⟩ := lS z
    have J106 : ∀  (h_107 : AHeap), k106 h_107 = some (rR, hR) → Go w0 m0 (Func.ntmps Try.f25) (K104 .normal) [(0, strA t0), (2, newP h), (3, newP h_2), (4, newP h_4), (5, .int .i64 t5)] [] h_107 := by
     intro  h_107 z
     rw [e106] at z
     refine n104 (W.r ?_)
     refine oA 17 (.int .i64 t5) ?_
     refine oI 18 .i64 z fun t18 z => ?_
     refine oA 5 (.int .i64 t18) ?_
     refine oV [(0, strA t0), (2, newP h), (3, newP h_2), (4, newP h_4), (5, .int .i64 t18)] (n99 ?_)
     exact gW _ (ih99 _ _ z)
    refine W.blockK (by kernel_rfl) (fun K105 n105 s105 o105 q105 p105 => ?_)
    refine oG fun n109 => W.r ?_
    refine oA 19 (.int .i64 t5) ?_
    refine oCs hc 20 z fun t20 h_110 z => ?_
    refine oA 6 (strA t20) ?_
    refine oV [(0, strA t0), (2, newP h), (3, newP h_2), (4, newP h_4), (5, .int .i64 t5), (6, strA t20)] (n109 ?_)
    refine oG fun n113 => W.r ?_
    refine oA 7 (.int .i64 0) ?_
    refine oV [(0, strA t0), (2, newP h), (3, newP h_2), (4, newP h_4), (5, .int .i64 t5), (6, strA t20), (7, .int .i64 0)] (n113 ?_)
    refine W.s (fun K114 n114 _ _ _ => ?_)
    obtain ⟨k116, e116, z⟩ := lS z
    have J116 : ∀ (t7 : Int) (h_117 : AHeap), k116 t7 h_117 = some (rR, hR) → Go w0 m0 (Func.ntmps Try.f25) (K114 .normal) [(0, strA t0), (2, newP h), (3, newP h_2), (4, newP h_4), (5, .int .i64 t5), (6, strA t20), (7, .int .i64 t7)] [] h_117 := by
     intro t7 h_117 z
     rw [e116] at z
     refine n114 ?_
     refine W.s (fun _ n118 e118 _ _ => ?_)
     refine oG fun n119 => W.r ?_
     refine oA 42 (.int .i64 t7) ?_
     refine oB 43 z fun t43 z => ?_
     refine oV [(0, strA t0), (2, newP h), (3, newP h_2), (4, newP h_4), (5, .int .i64 t5), (6, strA t20), (7, .int .i64 t7), (43, .bool t43)] (n119 ?_)
     cases t43 with
     | true =>
      refine oT z fun z => ?_
      refine W.exit (by kernel_rfl) ?_
      refine e118 ?_
      refine s105 (by kernel_rfl) ?_
      exact gW _ (J106 _ z)
     | false =>
      refine oU z fun z => ?_
      refine oZ (n118 ?_)
      refine oH fun n121 q121 => ?_
      refine oG fun n122 => W.r ?_
      refine oA 44 (.int .i64 t7) ?_
      refine oA 45 (strA t20) ?_
      refine oA 46 (.int .i64 (lenS t20)) ?_
      refine oB 47 z fun t47 z => ?_
      refine oV [(0, strA t0), (2, newP h), (3, newP h_2), (4, newP h_4), (5, .int .i64 t5), (7, .int .i64 t7), (47, .bool t47)] (n122 ?_)
      cases t47 with
      | true =>
       refine oT z fun z => ?_
       refine oG fun n124 => W.r ?_
       refine oA 48 (.agg ([.int .i64 0, .str 0 0] : List AV)) ?_
       refine oA 49 (.int .i64 t7) ?_
       refine oCa hc 50 z fun t50 h_125 z => ?_
       refine oW 35 (.agg ([.int .i64 0, .str 0 0] : List AV)) z fun h_128 z => ?_
       refine oW 27 (.agg t50) z fun h_130 z => ?_
       refine oV [(2, newP h), (3, newP h_2)] (n124 (oY (q121 (q105 (q104 (q99 (q13 (q11 ?_))))))))
       obtain ⟨w2_133, e132, z⟩ := oS z
       obtain ⟨w3_135, e134, z⟩ := oS z
       exact lZ z [.cell 2 35, .cell 3 27] [.agg w2_133, .agg w3_135] (rY e132 (rY e134 res_nil))
      | false =>
       refine oU z fun z => ?_
       refine oZ (n121 (W.r ?_))
       refine oA 51 (.int .i64 t5) ?_
       refine oA 52 (AV.ptr (AHeap.next h_4) 0) ?_
       refine oW 3 (.int .i64 t5) z fun h_136 z => ?_
       refine oV [(0, strA t0), (2, newP h), (3, newP h_2), (4, newP h_4), (5, .int .i64 t5)] (n105 ?_)
       exact gW _ (J106 _ z)
    refine W.blockK (by kernel_rfl) (fun K115 n115 s115 o115 q115 p115 => ?_)
    refine W.loopK (by kernel_rfl) (fun I138 K138 b138 n138 e138 q138 p138 => ?_)
    have L138 : ∀ (m : Nat) (t7_139 : Int) (h_140 : AHeap), ref09_Parse_L1 t0 t20 k116 m t7_139 h_140 = some (rR, hR) → Go w0 m0 (Func.ntmps Try.f25) I138 [(0, strA t0), (2, newP h), (3, newP h_2), (4, newP h_4), (5, .int .i64 t5), (6, strA t20), (7, .int .i64 t7_139)] [] h_140 := by
     intro m
     induction m with
     | zero => intro t7_139 h_140 z; cases z
     | succ m ih138 =>
      intro t7_139 h_140 z
      rw [ref09_Parse_L1_s] at z; unfold ref09_Parse_L1b at z
      refine b138 ?_
      refine W.s (fun _ n141 e141 _ _ => ?_)
      refine W.s (fun K142 n142 _ _ _ => ?_)
      obtain ⟨k143, e143, z⟩ := lS z
      have J143 : ∀ (t39 : Bool) (h_144 : AHeap), k143 t39 h_144 = some (rR, hR) → Go w0 m0 (Func.ntmps Try.f25) (K142 .normal) [(0, strA t0), (2, newP h), (3, newP h_2), (4, newP h_4), (5, .int .i64 t5), (6, strA t20), (7, .int .i64 t7_139), (39, .bool t39)] [] h_144 := by
       intro t39 h_144 z
       rw [e143] at z
       refine n142 ?_
       cases t39 with
       | true =>
        refine oT z fun z => ?_
        refine oZ (n141 ?_)
        refine W.blockK (by kernel_rfl) (fun K145 n145 s145 o145 q145 p145 => ?_)
        refine W.r ?_
        refine oA 40 (.int .i64 t7_139) ?_
        refine oI 41 .i64 z fun t41 z => ?_
        refine oA 7 (.int .i64 t41) ?_
        refine oV [(0, strA t0), (2, newP h), (3, newP h_2), (4, newP h_4), (5, .int .i64 t5), (6, strA t20), (7, .int .i64 t41)] (n145 (n138 ?_))
        exact gW _ (ih138 _ _ z)
       | false =>
        refine oU z fun z => ?_
        refine W.exit (by kernel_rfl) ?_
        refine e141 (e138 ?_)
        refine s115 (by kernel_rfl) ?_
        exact gW _ (J116 _ _ z)
      refine W.draw (by kernel_rfl) (hc.ok w0) (plan := [0, 1, 2, 3, 4, 5, 6, 7, 8, 9, 10, 11, 12, 13, 14, 15, 16, 17, 18]) (by kernel_rfl) (by kernel_rfl) (by kernel_rfl) ?_
      refine WD.a 0 (some 21) (.int .i64 t7_139) h_140 ?_
      refine WD.a 0 (some 22) (strA t20) h_140 ?_
      refine WD.a 0 (some 23) (.int .i64 (lenS t20)) h_140 ?_
      obtain ⟨t24, e147, z⟩ := lS z
      refine WD.val (d := (some 24)) (v := .bool t24) (h' := h_140) (by kernel_rfl) (by kernel_rfl) (val_of AV.bool e147 (by kernel_rfl)) (k := 0) (by kernel_rfl) (fun e => absurd e (by decide)) (by decide) ?_
      refine WD.a 0 (some 25) (.bool t24) h_140 ?_
      cases t24 with
      | true =>
       replace z := ifB_t z
       refine WD.a 0 (some 26) (.int .i64 t7_139) h_140 ?_
       refine WD.a 0 (some 27) (strA t0) h_140 ?_
       refine WD.a 0 (some 28) (.int .i64 (lenS t0)) h_140 ?_
       obtain ⟨t29, e148, z⟩ := lS z
       refine WD.val (d := (some 29)) (v := .bool t29) (h' := h_140) (by kernel_rfl) (by kernel_rfl) (val_of AV.bool e148 (by kernel_rfl)) (k := 0) (by kernel_rfl) (fun e => absurd e (by decide)) (by decide) ?_
       refine WD.a 0 (some 30) (.bool t29) h_140 ?_
       refine WD.a 0 (some 31) (.bool t29) h_140 ?_
       cases t29 with
       | true =>
        replace z := ifB_t z
        refine WD.a 0 (some 32) (strA t0) h_140 ?_
        refine WD.a 0 (some 33) (.int .i64 t7_139) h_140 ?_
        obtain ⟨t34, e149, z⟩ := oS z
        refine WD.b 0 (some 34) (.int .u8 t34) h_140 (index_str (P := Pg) (h := h_140) (t := 9) (k := .i64) (by kernel_rfl) e149) ?_
        refine WD.a 0 (some 35) (strA t20) h_140 ?_
        refine WD.a 0 (some 36) (.int .i64 t7_139) h_140 ?_
        obtain ⟨t37, e150, z⟩ := oS z
        refine WD.b 0 (some 37) (.int .u8 t37) h_140 (index_str (P := Pg) (h := h_140) (t := 9) (k := .i64) (by kernel_rfl) e150) ?_
        obtain ⟨t38, e151, z⟩ := lS z
        refine WD.val (d := (some 38)) (v := .bool t38) (h' := h_140) (by kernel_rfl) (by kernel_rfl) (val_of AV.bool e151 (by kernel_rfl)) (k := 0) (by kernel_rfl) (fun e => absurd e (by decide)) (by decide) ?_
        refine WD.a 0 (some 39) (.bool t38) h_140 ?_
        refine WD.nil ?_
        exact gW _ (J143 _ _ z)
       | false =>
        replace z := ifB_f z
        refine oD 0 (some 32) ?_
        refine oD 0 (some 33) ?_
        refine oD 0 (some 34) ?_
        refine oD 0 (some 35) ?_
        refine oD 0 (some 36) ?_
        refine oD 0 (some 37) ?_
        refine oD 0 (some 38) ?_
        refine WD.a 0 (some 39) (.bool false) h_140 ?_
        refine WD.nil ?_
        exact gW _ (J143 _ _ z)
      | false =>
       replace z := ifB_f z
       refine oD 0 (some 26) ?_
       refine oD 0 (some 27) ?_
       refine oD 0 (some 28) ?_
       refine oD 0 (some 29) ?_
       refine WD.a 0 (some 30) (.bool false) h_140 ?_
       refine WD.a 0 (some 31) (.bool false) h_140 ?_
       refine oD 0 (some 32) ?_
       refine oD 0 (some 33) ?_
       refine oD 0 (some 34) ?_
       refine oD 0 (some 35) ?_
       refine oD 0 (some 36) ?_
       refine oD 0 (some 37) ?_
       refine oD 0 (some 38) ?_
       refine WD.a 0 (some 39) (.bool false) h_140 ?_
       refine WD.nil ?_
       exact gW _ (J143 _ _ z)
    exact gW _ (L138 _ _ _ z)
   | false =>
    refine oU z fun z => ?_
    refine W.exit (by kernel_rfl) ?_
    refine e101 (e99 ?_)
    refine s13 (by kernel_rfl) ?_
    exact gW _ (J14 _ z)
 exact gW _ (L99 _ _ _ z)
noncomputable def ref09_word (_ : CallF) (_ : Nat) (t0 : Int) (h : AHeap) : R :=
 lett ((t0 : Int) == 2) fun (t5 : Bool) =>
 ifB t5
 (
  some (.ret (strA ([103, 108, 111, 98, 32] : Bytes)), h))
 (
  lett ((t0 : Int) == 3) fun (t7 : Bool) =>
  ifB t7
  (
   some (.ret (strA ([114, 101, 32] : Bytes)), h))
  (
   some (.ret (strA ([] : Bytes)), h)))
theorem ref09_word_ok {call : CallF} (_ : SaysAll Pg call) {n : Nat} {t0 : Int} {h : AHeap} {rR : ARes} {hR : AHeap} (z : ref09_word call n t0 h = some (rR, hR)) : Says Pg 46 [.int .i64 t0] h rR hR := by
 unfold ref09_word at z
 refine sO Try.func46 fun w0 m0 => ?_
 refine wW [(0, .int .i64 t0)] ?_
 refine oG fun n1 => W.r ?_
 refine oA 2 (strA ([] : Bytes)) ?_
 refine oV [(0, .int .i64 t0)] (n1 ?_)
 refine oH fun n2 q2 => ?_
 refine oG fun n3 => W.r ?_
 refine oA 3 (.int .i64 t0) ?_
 refine oV [(3, .int .i64 t0)] (n3 ?_)
 refine W.blockK (by kernel_rfl) (fun K4 n4 s4 o4 q4 p4 => ?_)
 refine oG fun n5 => W.r ?_
 refine oB 5 z fun t5 z => ?_
 refine oA 4 (.bool t5) ?_
 refine oV [(3, .int .i64 t0), (4, .bool t5)] (n5 ?_)
 cases t5 with
 | true =>
  refine oT z fun z => ?_
  refine oG fun n7 => W.r ?_
  refine oA 2 (strA ([103, 108, 111, 98, 32] : Bytes)) ?_
  refine oV [(2, strA ([103, 108, 111, 98, 32] : Bytes))] (n7 (oY (q4 (q2 ?_))))
  exact lZ z [.tmp 2] [strA ([103, 108, 111, 98, 32] : Bytes)] (rT res_nil)
 | false =>
  refine oU z fun z => ?_
  refine oG fun n8 => W.r ?_
  refine oB 7 z fun t7 z => ?_
  refine oA 6 (.bool t7) ?_
  refine oV [(6, .bool t7)] (n8 ?_)
  cases t7 with
  | true =>
   refine oT z fun z => ?_
   refine oG fun n10 => W.r ?_
   refine oA 2 (strA ([114, 101, 32] : Bytes)) ?_
   refine oV [(2, strA ([114, 101, 32] : Bytes))] (n10 (oY (q4 (q2 ?_))))
   exact lZ z [.tmp 2] [strA ([114, 101, 32] : Bytes)] (rT res_nil)
  | false =>
   refine oU z fun z => ?_
   refine oZ (n4 (n2 ?_))
   refine oG fun n11 => W.r ?_
   refine oA 2 (strA ([] : Bytes)) ?_
   refine oV [(2, strA ([] : Bytes))] (n11 (oY ?_))
   exact lZ z [.tmp 2] [strA ([] : Bytes)] (rT res_nil)
noncomputable def ref09_literal_L0b (call : CallF) (t0 : Bytes) (k8 : AV → AHeap → R) (self : AV → Int → AHeap → R) (t3_18 : AV) (t4 : Int) (h_19 : AHeap) : R :=
 lett (decide (t4 < (lenS t0))) fun (t8 : Bool) =>
 ifB t8
 (
  obind (idxS t0 t4) fun t14 =>
  callN (call 64 [.int .u8 t14] h_19) fun r15 h_26 =>
  obind (avAgg r15) fun t15 =>
  outK (bldSl Pg h_26 39 1 [(0, .agg t15)]) fun v16 h_29 =>
  outK (opAppend Pg h_29 39 39 t3_18 v16) fun v17 h_31 =>
  lett (IntKind.i64.wrap (t4 + 1)) fun (t10 : Int) =>
  self v17 t10 h_31)
 (
  k8 t3_18 h_19)
noncomputable def ref09_literal_L0 (call : CallF) (t0 : Bytes) (k8 : AV → AHeap → R) : Nat → AV → Int → AHeap → R := iterR (fun _ _ _ => none) (ref09_literal_L0b call t0 k8)
theorem ref09_literal_L0_s (call : CallF) (t0 : Bytes) (k8 : AV → AHeap → R) (m : Nat) : ref09_literal_L0 call t0 k8 (m + 1) = ref09_literal_L0b call t0 k8 (ref09_literal_L0 call t0 k8 m) := rfl
noncomputable def ref09_literal (call : CallF) (n : Nat) (t0 : Bytes) (h : AHeap) : R :=
 lett (newH h 41 [.int .i64 0, .int .u64 0, .int .u64 0, .int .u64 0, .int .u64 0, .nsl]) fun h_2 =>
 lett (fun (t3 : AV) (h_9 : AHeap) =>
  callN (call 65 [.int .i64 3, t3] h_9) fun r19 h_11 =>
  obind (avAgg r19) fun t19 =>
  obind (stRow h_11 6 t19 (newP h)) fun h_14 =>
  obind (ldRow h_14 6 (newP h)) fun w2 =>
  some (.ret (.agg w2), h_14)) fun k8 =>
 ref09_literal_L0 call t0 k8 n AV.nsl 0 h_2
theorem ref09_literal_ok {call : CallF} (hc : SaysAll Pg call) {n : Nat} {t0 : Bytes} {h : AHeap} {rR : ARes} {hR : AHeap} (z : ref09_literal call n t0 h = some (rR, hR)) : Says Pg 41 [strA t0] h rR hR := by
 unfold ref09_literal at z
 refine sO Try.func41 fun w0 m0 => ?_
 refine wW [(0, strA t0)] ?_
 refine oG fun n1 => W.r ?_
 refine oN 2 z fun h_2 z => ?_
 refine oV [(0, strA t0), (2, newP h)] (n1 ?_)
 refine oG fun n4 => W.r ?_
 refine oA 3 AV.nsl ?_
 refine oV [(0, strA t0), (2, newP h), (3, AV.nsl)] (n4 ?_)
 refine W.s (fun K5 n5 _ _ _ => ?_)
 refine oG fun n6 => W.r ?_
 refine oA 4 (.int .i64 0) ?_
 refine oV [(0, strA t0), (2, newP h), (3, AV.nsl), (4, .int .i64 0)] (n6 ?_)
 obtain ⟨k8, e8, z⟩ := lS z
 have J8 : ∀ (t3 : AV) (h_9 : AHeap), k8 t3 h_9 = some (rR, hR) → Go w0 m0 (Func.ntmps Try.f41) (K5 .normal) [(2, newP h), (3, t3)] [] h_9 := by
  intro t3 h_9 z
  rw [e8] at z
  refine n5 ?_
  refine oG fun n10 => W.r ?_
  refine oA 18 t3 ?_
  refine oCa hc 19 z fun t19 h_11 z => ?_
  refine oW 41 (.agg t19) z fun h_14 z => ?_
  refine oV [(2, newP h)] (n10 (oY ?_))
  obtain ⟨w2, e16, z⟩ := oS z
  exact lZ z [.cell 2 41] [.agg w2] (rY e16 res_nil)
 refine W.blockK (by kernel_rfl) (fun K7 n7 s7 o7 q7 p7 => ?_)
 refine W.loopK (by kernel_rfl) (fun I17 K17 b17 n17 e17 q17 p17 => ?_)
 have L17 : ∀ (m : Nat) (t3_18 : AV) (t4 : Int) (h_19 : AHeap), ref09_literal_L0 call t0 k8 m t3_18 t4 h_19 = some (rR, hR) → Go w0 m0 (Func.ntmps Try.f41) I17 [(0, strA t0), (2, newP h), (3, t3_18), (4, .int .i64 t4)] [] h_19 := by
  intro m
  induction m with
  | zero => intro t3_18 t4 h_19 z; cases z
  | succ m ih17 =>
   intro t3_18 t4 h_19 z
   rw [ref09_literal_L0_s] at z; unfold ref09_literal_L0b at z
   refine b17 ?_
   refine W.s (fun _ n20 e20 _ _ => ?_)
   refine oG fun n21 => W.r ?_
   refine oA 5 (.int .i64 t4) ?_
   refine oA 6 (strA t0) ?_
   refine oA 7 (.int .i64 (lenS t0)) ?_
   refine oB 8 z fun t8 z => ?_
   refine oV [(0, strA t0), (2, newP h), (3, t3_18), (4, .int .i64 t4), (8, .bool t8)] (n21 ?_)
   cases t8 with
   | true =>
    refine oT z fun z => ?_
    refine oZ (n20 ?_)
    refine oG fun n23 => ?_
    refine W.blockK (by kernel_rfl) (fun K24 n24 s24 o24 q24 p24 => ?_)
    refine W.r ?_
    refine oA 11 t3_18 ?_
    refine oA 12 (strA t0) ?_
    refine oA 13 (.int .i64 t4) ?_
    refine oX 14 9 .i64 z fun t14 z => ?_
    refine oCa hc 15 z fun t15 h_26 z => ?_
    refine oK 16 z fun v16 h_29 z => ?_
    refine oK 17 z fun v17 h_31 z => ?_
    refine oA 3 v17 ?_
    refine oV [(0, strA t0), (2, newP h), (3, v17), (4, .int .i64 t4)] (n24 (n23 (W.r ?_)))
    refine oA 9 (.int .i64 t4) ?_
    refine oI 10 .i64 z fun t10 z => ?_
    refine oA 4 (.int .i64 t10) ?_
    refine oV [(0, strA t0), (2, newP h), (3, v17), (4, .int .i64 t10)] (n17 ?_)
    exact gW _ (ih17 _ _ _ z)
   | false =>
    refine oU z fun z => ?_
    refine W.exit (by kernel_rfl) ?_
    refine e20 (e17 ?_)
    refine s7 (by kernel_rfl) ?_
    exact gW _ (J8 _ _ z)
 exact gW _ (L17 _ _ _ _ z)
noncomputable def ref09_glob_L0b (call : CallF) (t0 : Bytes) (h : AHeap) (k8 : AV → AHeap → R) (self : AV → Int → AHeap → R) (t4_18 : AV) (t5 : Int) (h_19 : AHeap) : R :=
 lett (decide (t5 < (lenS t0))) fun (t9 : Bool) =>
 ifB t9
 (
  obind (idxS t0 t5) fun t14 =>
  lett ((t14 : Int) == 92) fun (t15 : Bool) =>
  lett (fun (t22 : Bool) (h_29 : AHeap) =>
   ifB t22
   (
    obind (stRow h_29 6 ([.int .i64 0, .int .u64 0, .int .u64 0, .int .u64 0, .int .u64 0, .nsl] : List AV) (newP h)) fun h_33 =>
    obind (ldRow h_33 6 (newP h)) fun w2_36 =>
    some (.ret (.tup [.agg w2_36, .bool false]), h_33))
   (
    obind (idxS t0 t5) fun t34 =>
    lett ((t34 : Int) == 92) fun (t35 : Bool) =>
    lett (fun (t4_42 : AV) (t5_43 : Int) (h_44 : AHeap) =>
     lett (IntKind.i64.wrap (t5_43 + 1)) fun (t11 : Int) =>
     self t4_42 t11 h_44) fun k41 =>
    ifB t35
    (
     lett (IntKind.i64.wrap (t5 + 1)) fun (t39 : Int) =>
     obind (idxS t0 t39) fun t40 =>
     callN (call 64 [.int .u8 t40] h_29) fun r41 h_49 =>
     obind (avAgg r41) fun t41 =>
     outK (bldSl Pg h_49 39 1 [(0, .agg t41)]) fun v42 h_52 =>
     outK (opAppend Pg h_52 39 39 t4_18 v42) fun v43 h_54 =>
     lett (IntKind.i64.wrap (t5 + 1)) fun (t45 : Int) =>
     k41 v43 t45 h_54)
    (
     obind (idxS t0 t5) fun t49 =>
     lett ((t49 : Int) == 42) fun (t50 : Bool) =>
     lett (fun (t4_61 : AV) (h_62 : AHeap) =>
      k41 t4_61 t5 h_62) fun k60 =>
     ifB t50
     (
      callN (call 66 [] h_29) fun r52 h_63 =>
      obind (avAgg r52) fun t52 =>
      outK (bldSl Pg h_63 39 1 [(0, .agg t52)]) fun v53 h_66 =>
      obind (bldS Pg 41 [(0, .int .i64 5), (2, v53)]) fun t54 =>
      outK (bldSl Pg h_66 39 1 [(0, .agg t54)]) fun v55 h_69 =>
      outK (opAppend Pg h_69 39 39 t4_18 v55) fun v56 h_71 =>
      k60 v56 h_71)
     (
      obind (idxS t0 t5) fun t60 =>
      lett ((t60 : Int) == 63) fun (t61 : Bool) =>
      lett (fun (t4_77 : AV) (h_78 : AHeap) =>
       k60 t4_77 h_78) fun k76 =>
      ifB t61
      (
       callN (call 66 [] h_29) fun r63 h_79 =>
       obind (avAgg r63) fun t63 =>
       outK (bldSl Pg h_79 39 1 [(0, .agg t63)]) fun v64 h_82 =>
       outK (opAppend Pg h_82 39 39 t4_18 v64) fun v65 h_84 =>
       k76 v65 h_84)
      (
       obind (idxS t0 t5) fun t27 =>
       callN (call 64 [.int .u8 t27] h_29) fun r28 h_87 =>
       obind (avAgg r28) fun t28 =>
       outK (bldSl Pg h_87 39 1 [(0, .agg t28)]) fun v29 h_90 =>
       outK (opAppend Pg h_90 39 39 t4_18 v29) fun v30 h_92 =>
       k76 v30 h_92))))) fun j22 =>
  ifB t15
  (
   lett (IntKind.i64.wrap (t5 + 1)) fun (t18 : Int) =>
   lett ((t18 : Int) == (lenS t0)) fun (t21 : Bool) =>
   j22 t21 h_19)
  (
   j22 false h_19))
 (
  k8 t4_18 h_19)
noncomputable def ref09_glob_L0 (call : CallF) (t0 : Bytes) (h : AHeap) (k8 : AV → AHeap → R) : Nat → AV → Int → AHeap → R := iterR (fun _ _ _ => none) (ref09_glob_L0b call t0 h k8)
theorem ref09_glob_L0_s (call : CallF) (t0 : Bytes) (h : AHeap) (k8 : AV → AHeap → R) (m : Nat) : ref09_glob_L0 call t0 h k8 (m + 1) = ref09_glob_L0b call t0 h k8 (ref09_glob_L0 call t0 h k8 m) := rfl
noncomputable def ref09_glob (call : CallF) (n : Nat) (t0 : Bytes) (h : AHeap) : R :=
 lett (newH h 41 [.int .i64 0, .int .u64 0, .int .u64 0, .int .u64 0, .int .u64 0, .nsl]) fun h_2 =>
 lett (fun (t4 : AV) (h_9 : AHeap) =>
  callN (call 65 [.int .i64 3, t4] h_9) fun r67 h_11 =>
  obind (avAgg r67) fun t67 =>
  obind (stRow h_11 6 t67 (newP h)) fun h_14 =>
  obind (ldRow h_14 6 (newP h)) fun w2 =>
  some (.ret (.tup [.agg w2, .bool true]), h_14)) fun k8 =>
 ref09_glob_L0 call t0 h k8 n AV.nsl 0 h_2
theorem ref09_glob_ok {call : CallF} (hc : SaysAll Pg call) {n : Nat} {t0 : Bytes} {h : AHeap} {rR : ARes} {hR : AHeap} (z : ref09_glob call n t0 h = some (rR, hR)) : Says Pg 42 [strA t0] h rR hR := by
 unfold ref09_glob at z
 refine sO Try.func42 fun w0 m0 => ?_
 refine wW [(0, strA t0)] ?_
 refine oG fun n1 => W.r ?_
 refine oN 2 z fun h_2 z => ?_
 refine oA 3 (.bool false) ?_
 refine oV [(0, strA t0), (2, newP h)] (n1 ?_)
 refine oG fun n4 => W.r ?_
 refine oA 4 AV.nsl ?_
 refine oV [(0, strA t0), (2, newP h), (4, AV.nsl)] (n4 ?_)
 refine W.s (fun K5 n5 _ q5 _ => ?_)
 refine oG fun n6 => W.r ?_
 refine oA 5 (.int .i64 0) ?_
 refine oV [(0, strA t0), (2, newP h), (4, AV.nsl), (5, .int .i64 0)] (n6 ?_)
 obtain ⟨k8, e8, z⟩ := lS z
 have J8 : ∀ (t4 : AV) (h_9 : AHeap), k8 t4 h_9 = some (rR, hR) → Go w0 m0 (Func.ntmps Try.f42) (K5 .normal) [(2, newP h), (4, t4)] [] h_9 := by
  intro t4 h_9 z
  rw [e8] at z
  refine n5 ?_
  refine oG fun n10 => W.r ?_
  refine oA 66 t4 ?_
  refine oCa hc 67 z fun t67 h_11 z => ?_
  refine oW 41 (.agg t67) z fun h_14 z => ?_
  refine oA 3 (.bool true) ?_
  refine oV [(2, newP h), (3, .bool true)] (n10 (oY ?_))
  obtain ⟨w2, e16, z⟩ := oS z
  exact lZ z [.cell 2 41, .tmp 3] [.agg w2, .bool true] (rY e16 (rT res_nil))
 refine W.blockK (by kernel_rfl) (fun K7 n7 s7 o7 q7 p7 => ?_)
 refine W.loopK (by kernel_rfl) (fun I17 K17 b17 n17 e17 q17 p17 => ?_)
 have L17 : ∀ (m : Nat) (t4_18 : AV) (t5 : Int) (h_19 : AHeap), ref09_glob_L0 call t0 h k8 m t4_18 t5 h_19 = some (rR, hR) → Go w0 m0 (Func.ntmps Try.f42) I17 [(0, strA t0), (2, newP h), (4, t4_18), (5, .int .i64 t5)] [] h_19 := by
  intro m
  induction m with
  | zero => intro t4_18 t5 h_19 z; cases z
  | succ m ih17 =>
   intro t4_18 t5 h_19 z
   rw [ref09_glob_L0_s] at z; unfold ref09_glob_L0b at z
   refine b17 ?_
   refine W.s (fun _ n20 e20 _ _ => ?_)
   refine oG fun n21 => W.r ?_
   refine oA 6 (.int .i64 t5) ?_
   refine oA 7 (strA t0) ?_
   refine oA 8 (.int .i64 (lenS t0)) ?_
   refine oB 9 z fun t9 z => ?_
   refine oV [(0, strA t0), (2, newP h), (4, t4_18), (5, .int .i64 t5), (9, .bool t9)] (n21 ?_)
   cases t9 with
   | true =>
    refine oT z fun z => ?_
    refine oZ (n20 ?_)
    refine oH fun n23 q23 => ?_
    refine W.blockK (by kernel_rfl) (fun K24 n24 s24 o24 q24 p24 => ?_)
    refine oH fun n25 q25 => ?_
    refine W.s (fun K26 n26 _ _ _ => ?_)
    refine W.r ?_
    refine oA 12 (strA t0) ?_
    refine oA 13 (.int .i64 t5) ?_
    refine oX 14 9 .i64 z fun t14 z => ?_
    refine oB 15 z fun t15 z => ?_
    refine oA 16 (.bool t15) ?_
    obtain ⟨j22, e30, z⟩ := lS z
    have J31 : ∀ (t22 : Bool) (h_29 : AHeap), j22 t22 h_29 = some (rR, hR) → WL Pg w0 m0 (Func.ntmps Try.f42) (Code.ops (Code.p1 (Code.p1 (Code.p1 (Code.p1 (Code.p2 (Code.p1 (Code.p1 (Code.p2 (Code.p1 (Code.p2 (Code.p2 (codeOf Try.f42))))))))))))) 11 K26 [(0, strA t0), (2, newP h), (4, t4_18), (5, .int .i64 t5), (22, .bool t22)] [] h_29 := by
     intro t22 h_29 z
     rw [e30] at z
     refine oV [(0, strA t0), (2, newP h), (4, t4_18), (5, .int .i64 t5), (22, .bool t22)] (n26 ?_)
     cases t22 with
     | true =>
      refine oT z fun z => ?_
      refine oG fun n32 => W.r ?_
      refine oA 23 (.agg ([.int .i64 0, .int .u64 0, .int .u64 0, .int .u64 0, .int .u64 0, .nsl] : List AV)) ?_
      refine oW 41 (.agg ([.int .i64 0, .int .u64 0, .int .u64 0, .int .u64 0, .int .u64 0, .nsl] : List AV)) z fun h_33 z => ?_
      refine oA 3 (.bool false) ?_
      refine oV [(2, newP h), (3, .bool false)] (n32 (oY (q25 (q24 (q23 (q17 (q7 (q5 ?_))))))))
      obtain ⟨w2_36, e35, z⟩ := oS z
      exact lZ z [.cell 2 41, .tmp 3] [.agg w2_36, .bool false] (rY e35 (rT res_nil))
     | false =>
      refine oU z fun z => ?_
      refine oZ (n25 ?_)
      refine W.blockK (by kernel_rfl) (fun K37 n37 s37 o37 q37 p37 => ?_)
      refine oG fun n38 => W.r ?_
      refine oA 32 (strA t0) ?_
      refine oA 33 (.int .i64 t5) ?_
      refine oX 34 9 .i64 z fun t34 z => ?_
      refine oB 35 z fun t35 z => ?_
      refine oA 31 (.bool t35) ?_
      refine oV [(0, strA t0), (2, newP h), (4, t4_18), (5, .int .i64 t5), (31, .bool t35)] (n38 ?_)
      obtain ⟨k41, e41, z⟩ := lS z
      have J41 : ∀ (t4_42 : AV) (t5_43 : Int) (h_44 : AHeap), k41 t4_42 t5_43 h_44 = some (rR, hR) → Go w0 m0 (Func.ntmps Try.f42) (K37 .normal) [(0, strA t0), (2, newP h), (4, t4_42), (5, .int .i64 t5_43)] [] h_44 := by
       intro t4_42 t5_43 h_44 z
       rw [e41] at z
       refine n37 (n24 (n23 (W.r ?_)))
       refine oA 10 (.int .i64 t5_43) ?_
       refine oI 11 .i64 z fun t11 z => ?_
       refine oA 5 (.int .i64 t11) ?_
       refine oV [(0, strA t0), (2, newP h), (4, t4_42), (5, .int .i64 t11)] (n17 ?_)
       exact gW _ (ih17 _ _ _ z)
      cases t35 with
      | true =>
       refine oT z fun z => ?_
       refine oG fun n46 => W.r ?_
       refine oA 36 t4_18 ?_
       refine oA 37 (strA t0) ?_
       refine oA 38 (.int .i64 t5) ?_
       refine oI 39 .i64 z fun t39 z => ?_
       refine oX 40 9 .i64 z fun t40 z => ?_
       refine oCa hc 41 z fun t41 h_49 z => ?_
       refine oK 42 z fun v42 h_52 z => ?_
       refine oK 43 z fun v43 h_54 z => ?_
       refine oA 4 v43 ?_
       refine oV [(0, strA t0), (2, newP h), (4, v43), (5, .int .i64 t5)] (n46 (W.r ?_))
       refine oA 44 (.int .i64 t5) ?_
       refine oI 45 .i64 z fun t45 z => ?_
       refine oA 5 (.int .i64 t45) ?_
       refine oV [(0, strA t0), (2, newP h), (4, v43), (5, .int .i64 t45)] ?_
       exact gW _ (J41 _ _ _ z)
      | false =>
       refine oU z fun z => ?_
       refine oG fun n57 => W.r ?_
       refine oA 47 (strA t0) ?_
       refine oA 48 (.int .i64 t5) ?_
       refine oX 49 9 .i64 z fun t49 z => ?_
       refine oB 50 z fun t50 z => ?_
       refine oA 46 (.bool t50) ?_
       refine oV [(0, strA t0), (2, newP h), (4, t4_18), (5, .int .i64 t5), (46, .bool t50)] (n57 ?_)
       obtain ⟨k60, e60, z⟩ := lS z
       have J60 : ∀ (t4_61 : AV) (h_62 : AHeap), k60 t4_61 h_62 = some (rR, hR) → Go w0 m0 (Func.ntmps Try.f42) (K37 .normal) [(0, strA t0), (2, newP h), (4, t4_61), (5, .int .i64 t5)] [] h_62 := by
        intro t4_61 h_62 z
        rw [e60] at z
        exact gW _ (J41 _ _ _ z)
       cases t50 with
       | true =>
        refine oT z fun z => ?_
        refine W.r ?_
        refine oA 51 t4_18 ?_
        refine oCa hc 52 z fun t52 h_63 z => ?_
        refine oK 53 z fun v53 h_66 z => ?_
        obtain ⟨t54, e68, z⟩ := oS z
        refine WL.val (d := (some 54)) (v := .agg t54) (h' := h_66) (by kernel_rfl) (by kernel_rfl) (bld_ok (by kernel_rfl) e68) ?_
        refine oK 55 z fun v55 h_69 z => ?_
        refine oK 56 z fun v56 h_71 z => ?_
        refine oA 4 v56 ?_
        refine oV [(0, strA t0), (2, newP h), (4, v56), (5, .int .i64 t5)] ?_
        exact gW _ (J60 _ _ z)
       | false =>
        refine oU z fun z => ?_
        refine oG fun n73 => W.r ?_
        refine oA 58 (strA t0) ?_
        refine oA 59 (.int .i64 t5) ?_
        refine oX 60 9 .i64 z fun t60 z => ?_
        refine oB 61 z fun t61 z => ?_
        refine oA 57 (.bool t61) ?_
        refine oV [(0, strA t0), (2, newP h), (4, t4_18), (5, .int .i64 t5), (57, .bool t61)] (n73 ?_)
        obtain ⟨k76, e76, z⟩ := lS z
        have J76 : ∀ (t4_77 : AV) (h_78 : AHeap), k76 t4_77 h_78 = some (rR, hR) → Go w0 m0 (Func.ntmps Try.f42) (K37 .normal) [(0, strA t0), (2, newP h), (4, t4_77), (5, .int .i64 t5)] [] h_78 := by
         intro t4_77 h_78 z
         rw [e76] at z
         exact gW _ (J60 _ _ z)
        cases t61 with
        | true =>
         refine oT z fun z => ?_
         refine W.r ?_
         refine oA 62 t4_18 ?_
         refine oCa hc 63 z fun t63 h_79 z => ?_
         refine oK 64 z fun v64 h_82 z => ?_
         refine oK 65 z fun v65 h_84 z => ?_
         refine oA 4 v65 ?_
         refine oV [(0, strA t0), (2, newP h), (4, v65), (5, .int .i64 t5)] ?_
         exact gW _ (J76 _ _ z)
        | false =>
         refine oU z fun z => ?_
         refine W.r ?_
         refine oA 24 t4_18 ?_
         refine oA 25 (strA t0) ?_
         refine oA 26 (.int .i64 t5) ?_
         refine oX 27 9 .i64 z fun t27 z => ?_
         refine oCa hc 28 z fun t28 h_87 z => ?_
         refine oK 29 z fun v29 h_90 z => ?_
         refine oK 30 z fun v30 h_92 z => ?_
         refine oA 4 v30 ?_
         refine oV [(0, strA t0), (2, newP h), (4, v30), (5, .int .i64 t5)] ?_
         exact gW _ (J76 _ _ z)
    cases t15 with
    | true =>
     replace z := ifB_t z
     refine oA 17 (.int .i64 t5) ?_
     refine oI 18 .i64 z fun t18 z => ?_
     refine oA 19 (strA t0) ?_
     refine oA 20 (.int .i64 (lenS t0)) ?_
     refine oB 21 z fun t21 z => ?_
     refine oA 22 (.bool t21) ?_
     exact lW _ (J31 _ _ z)
    | false =>
     replace z := ifB_f z
     refine WL.o (some 17) ?_
     refine WL.o (some 18) ?_
     refine WL.o (some 19) ?_
     refine WL.o (some 20) ?_
     refine WL.o (some 21) ?_
     refine oA 22 (.bool false) ?_
     exact lW _ (J31 _ _ z)
   | false =>
    refine oU z fun z => ?_
    refine W.exit (by kernel_rfl) ?_
    refine e20 (e17 ?_)
    refine s7 (by kernel_rfl) ?_
    exact gW _ (J8 _ _ z)
 exact gW _ (L17 _ _ _ _ z)
noncomputable def ref09_One (_ : CallF) (_ : Nat) (t0 : Int) (h : AHeap) : R :=
 lett (newH h 41 [.int .i64 0, .int .u64 0, .int .u64 0, .int .u64 0, .int .u64 0, .nsl]) fun h_2 =>
 lett (newH h_2 41 [.int .i64 0, .int .u64 0, .int .u64 0, .int .u64 0, .int .u64 0, .nsl]) fun h_5 =>
 obind (stRow h_5 6 ([.int .i64 2, .int .u64 0, .int .u64 0, .int .u64 0, .int .u64 0, .nsl] : List AV) (newP h_2)) fun h_7 =>
 obind (quoI .u8 t0 64) fun t6 =>
 obind (remI .u8 t0 64) fun t8 =>
 obind (shlI .u64 1 t8) fun t9 =>
 obind (idxA 4 1 (AV.ptr (AHeap.next h_2) 1) t6) fun t11 =>
 obind (stRow h_7 1 [.int .u64 t9] t11) fun h_14 =>
 obind (ldRow h_14 6 (newP h_2)) fun t12 =>
 obind (stRow h_14 6 t12 (newP h)) fun h_18 =>
 obind (ldRow h_18 6 (newP h)) fun w2 =>
 some (.ret (.agg w2), h_18)
theorem ref09_One_ok {call : CallF} (_ : SaysAll Pg call) {n : Nat} {t0 : Int} {h : AHeap} {rR : ARes} {hR : AHeap} (z : ref09_One call n t0 h = some (rR, hR)) : Says Pg 64 [.int .u8 t0] h rR hR := by
 unfold ref09_One at z
 refine sO Try.func64 fun w0 m0 => ?_
 refine wW [(0, .int .u8 t0)] ?_
 refine oG fun n1 => W.r ?_
 refine oN 2 z fun h_2 z => ?_
 refine oV [(0, .int .u8 t0), (2, newP h)] (n1 ?_)
 refine oG fun n4 => W.r ?_
 refine oA 4 (.agg ([.int .i64 2, .int .u64 0, .int .u64 0, .int .u64 0, .int .u64 0, .nsl] : List AV)) ?_
 refine oN 3 z fun h_5 z => ?_
 refine oW 41 (.agg ([.int .i64 2, .int .u64 0, .int .u64 0, .int .u64 0, .int .u64 0, .nsl] : List AV)) z fun h_7 z => ?_
 refine oV [(0, .int .u8 t0), (2, newP h), (3, newP h_2)] (n4 ?_)
 refine oG fun n9 => W.r ?_
 refine oA 5 (.int .u8 t0) ?_
 obtain ⟨t6, e10, z⟩ := oS z
 refine WL.b (some 6) (.int .u8 t6) h_7 (quo_int (P := Pg) (h := h_7) (t := 5) (lit := true) e10) ?_
 refine oA 7 (.int .u8 t0) ?_
 obtain ⟨t8, e11, z⟩ := oS z
 refine WL.b (some 8) (.int .u8 t8) h_7 (rem_int (P := Pg) (h := h_7) (t := 5) (lit := true) e11) ?_
 obtain ⟨t9, e12, z⟩ := oS z
 refine WL.b (some 9) (.int .u64 t9) h_7 (shl_int (P := Pg) (h := h_7) (t := 36) (k' := .u8) (lit := true) e12) ?_
 refine oA 10 (AV.ptr (AHeap.next h_2) 1) ?_
 refine oQ 11 38 36 .u8 z fun t11 z => ?_
 refine oW 36 (.int .u64 t9) z fun h_14 z => ?_
 refine oV [(2, newP h), (3, newP h_2)] (n9 ?_)
 refine oG fun n16 => W.r ?_
 refine oR 12 41 z fun t12 z => ?_
 refine oW 41 (.agg t12) z fun h_18 z => ?_
 refine oV [(2, newP h)] (n16 (oY ?_))
 obtain ⟨w2, e20, z⟩ := oS z
 exact lZ z [.cell 2 41] [.agg w2] (rY e20 res_nil)
noncomputable def ref09_All_L0b (h_2 : AHeap) (k12 : AHeap → R) (self : Int → AHeap → R) (t2 : Int) (h_20 : AHeap) : R :=
 lett (decide (t2 < 256)) fun (t5 : Bool) =>
 ifB t5
 (
  obind (quoI .i64 t2 64) fun t9 =>
  obind (idxA 4 1 (AV.ptr (AHeap.next h_2) 1) t9) fun t11 =>
  obind (ldCell h_20 t11) fun v12 =>
  obind (avInt .u64 v12) fun t12 =>
  obind (remI .i64 t2 64) fun t14 =>
  obind (shlI .u64 1 t14) fun t15 =>
  lett (orI .u64 t12 t15) fun (t16 : Int) =>
  obind (idxA 4 1 (AV.ptr (AHeap.next h_2) 1) t9) fun t18 =>
  obind (stRow h_20 1 [.int .u64 t16] t18) fun h_34 =>
  lett (IntKind.i64.wrap (t2 + 1)) fun (t7 : Int) =>
  self t7 h_34)
 (
  k12 h_20)
noncomputable def ref09_All_L0 (h_2 : AHeap) (k12 : AHeap → R) : Nat → Int → AHeap → R := iterR (fun _ _ => none) (ref09_All_L0b h_2 k12)
theorem ref09_All_L0_s (h_2 : AHeap) (k12 : AHeap → R) (m : Nat) : ref09_All_L0 h_2 k12 (m + 1) = ref09_All_L0b h_2 k12 (ref09_All_L0 h_2 k12 m) := rfl
noncomputable def ref09_All (_ : CallF) (n : Nat)  (h : AHeap) : R :=
 lett (newH h 41 [.int .i64 0, .int .u64 0, .int .u64 0, .int .u64 0, .int .u64 0, .nsl]) fun h_2 =>
 lett (newH h_2 41 [.int .i64 0, .int .u64 0, .int .u64 0, .int .u64 0, .int .u64 0, .nsl]) fun h_5 =>
 obind (stRow h_5 6 ([.int .i64 2, .int .u64 0, .int .u64 0, .int .u64 0, .int .u64 0, .nsl] : List AV) (newP h_2)) fun h_7 =>
 lett (fun  (h_13 : AHeap) =>
  obind (ldRow h_13 6 (newP h_2)) fun t19 =>
  obind (stRow h_13 6 t19 (newP h)) fun h_16 =>
  obind (ldRow h_16 6 (newP h)) fun w0 =>
  some (.ret (.agg w0), h_16)) fun k12 =>
 ref09_All_L0 h_2 k12 n 0 h_7
theorem ref09_All_ok {call : CallF} (hc : SaysAll Pg call) {n : Nat}  {h : AHeap} {rR : ARes} {hR : AHeap} (z : ref09_All call n  h = some (rR, hR)) : Says Pg 66 [] h rR hR := by
 unfold ref09_All at z
 refine sO Try.func66 fun w0 m0 => ?_
 refine wW [] ?_
 refine oG fun n1 => W.r ?_
 refine oN 0 z fun h_2 z => ?_
 refine oV [(0, newP h)] (n1 ?_)
 refine oG fun n4 => W.r ?_
 refine oA 3 (.agg ([.int .i64 2, .int .u64 0, .int .u64 0, .int .u64 0, .int .u64 0, .nsl] : List AV)) ?_
 refine oN 1 z fun h_5 z => ?_
 refine oW 41 (.agg ([.int .i64 2, .int .u64 0, .int .u64 0, .int .u64 0, .int .u64 0, .nsl] : List AV)) z fun h_7 z => ?_
 refine oV [(0, newP h), (1, newP h_2)] (n4 ?_)
 refine W.s (fun K9 n9 _ _ _ => ?_)
 refine oG fun n10 => W.r ?_
 refine oA 2 (.int .i64 0) ?_
 refine oV [(0, newP h), (1, newP h_2), (2, .int .i64 0)] (n10 ?_)
 obtain ⟨k12, e12, z⟩ := lS z
 have J12 : ∀  (h_13 : AHeap), k12 h_13 = some (rR, hR) → Go w0 m0 (Func.ntmps Try.f66) (K9 .normal) [(0, newP h), (1, newP h_2)] [] h_13 := by
  intro  h_13 z
  rw [e12] at z
  refine n9 ?_
  refine oG fun n14 => W.r ?_
  refine oR 19 41 z fun t19 z => ?_
  refine oW 41 (.agg t19) z fun h_16 z => ?_
  refine oV [(0, newP h)] (n14 (oY ?_))
  obtain ⟨w0, e18, z⟩ := oS z
  exact lZ z [.cell 0 41] [.agg w0] (rY e18 res_nil)
 refine W.blockK (by kernel_rfl) (fun K11 n11 s11 o11 q11 p11 => ?_)
 refine W.loopK (by kernel_rfl) (fun I19 K19 b19 n19 e19 q19 p19 => ?_)
 have L19 : ∀ (m : Nat) (t2 : Int) (h_20 : AHeap), ref09_All_L0 h_2 k12 m t2 h_20 = some (rR, hR) → Go w0 m0 (Func.ntmps Try.f66) I19 [(0, newP h), (1, newP h_2), (2, .int .i64 t2)] [] h_20 := by
  intro m
  induction m with
  | zero => intro t2 h_20 z; cases z
  | succ m ih19 =>
   intro t2 h_20 z
   rw [ref09_All_L0_s] at z; unfold ref09_All_L0b at z
   refine b19 ?_
   refine W.s (fun _ n21 e21 _ _ => ?_)
   refine oG fun n22 => W.r ?_
   refine oA 4 (.int .i64 t2) ?_
   refine oB 5 z fun t5 z => ?_
   refine oV [(0, newP h), (1, newP h_2), (2, .int .i64 t2), (5, .bool t5)] (n22 ?_)
   cases t5 with
   | true =>
    refine oT z fun z => ?_
    refine oZ (n21 ?_)
    refine oG fun n24 => ?_
    refine W.blockK (by kernel_rfl) (fun K25 n25 s25 o25 q25 p25 => ?_)
    refine W.draw (by kernel_rfl) (hc.ok w0) (plan := [0, 1, 2, 3, 4, 5, 6, 7, 8, 9, 10, 11]) (by kernel_rfl) (by kernel_rfl) (by kernel_rfl) ?_
    refine WD.a 0 (some 8) (.int .i64 t2) h_20 ?_
    obtain ⟨t9, e26, z⟩ := oS z
    refine WD.b 0 (some 9) (.int .i64 t9) h_20 (quo_int (P := Pg) (h := h_20) (t := 3) (lit := true) e26) ?_
    refine WD.a 0 (some 10) (AV.ptr (AHeap.next h_2) 1) h_20 ?_
    obtain ⟨t11, e27, z⟩ := oS z
    refine WD.b 0 (some 11) t11 h_20 (index_arr (P := Pg) (h := h_20) (t := 38) (e' := 36) (k := .i64) (by kernel_rfl) (by kernel_rfl) (by kernel_rfl) e27) ?_
    replace z := oS z; obtain ⟨v12, e28, z⟩ := z
    replace z := oS z; obtain ⟨t12, c29, z⟩ := z
    have c29 := avInt_some c29
    subst c29
    refine WD.b 1 (some 12) (.int .u64 t12) h_20 (load_cell (P := Pg) (h := h_20) (t := 36) (by kernel_rfl) e28) ?_
    refine WD.a 0 (some 13) (.int .i64 t2) h_20 ?_
    obtain ⟨t14, e30, z⟩ := oS z
    refine WD.b 0 (some 14) (.int .i64 t14) h_20 (rem_int (P := Pg) (h := h_20) (t := 3) (lit := true) e30) ?_
    obtain ⟨t15, e31, z⟩ := oS z
    refine WD.b 0 (some 15) (.int .u64 t15) h_20 (shl_int (P := Pg) (h := h_20) (t := 36) (k' := .i64) (lit := true) e31) ?_
    obtain ⟨t16, e32, z⟩ := lS z
    refine WD.val (d := (some 16)) (v := .int .u64 t16) (h' := h_20) (by kernel_rfl) (by kernel_rfl) (val_of (AV.int .u64) e32 (by kernel_rfl)) (k := 0) (by kernel_rfl) (fun e => absurd e (by decide)) (by decide) ?_
    refine WD.a 0 (some 17) (AV.ptr (AHeap.next h_2) 1) h_20 ?_
    obtain ⟨t18, e33, z⟩ := oS z
    refine WD.b 0 (some 18) t18 h_20 (index_arr (P := Pg) (h := h_20) (t := 38) (e' := 36) (k := .i64) (by kernel_rfl) (by kernel_rfl) (by kernel_rfl) e33) ?_
    obtain ⟨h_34, e35, z⟩ := oS z
    refine WD.eff (h' := h_34) (by kernel_rfl) (by kernel_rfl) (Eq.trans (by kernel_rfl) (store_row (P := Pg) (h := h_20) (t := 36) (v := (.int .u64 t16)) (by kernel_rfl) (by kernel_rfl) e35)) (k := 2) (by kernel_rfl) (fun _ => (by kernel_rfl)) (by decide) ?_
    refine WD.nil ?_
    refine gW [(0, newP h), (1, newP h_2), (2, .int .i64 t2)] (n25 (n24 (W.r ?_)))
    refine oA 6 (.int .i64 t2) ?_
    refine oI 7 .i64 z fun t7 z => ?_
    refine oA 2 (.int .i64 t7) ?_
    refine oV [(0, newP h), (1, newP h_2), (2, .int .i64 t7)] (n19 ?_)
    exact gW _ (ih19 _ _ z)
   | false =>
    refine oU z fun z => ?_
    refine W.exit (by kernel_rfl) ?_
    refine e21 (e19 ?_)
    refine s11 (by kernel_rfl) ?_
    exact gW _ (J12 _ z)
 exact gW _ (L19 _ _ _ z)
noncomputable def ref09_Over (_ : CallF) (_ : Nat) (t0 : Int) (t1 : AV) (h : AHeap) : R :=
 lett (newH h 41 [.int .i64 0, .int .u64 0, .int .u64 0, .int .u64 0, .int .u64 0, .nsl]) fun h_2 =>
 obind (lenL t1) fun t6 =>
 lett ((t6 : Int) == 0) fun (t7 : Bool) =>
 ifB t7
 (
  obind (stRow h_2 6 ([.int .i64 1, .int .u64 0, .int .u64 0, .int .u64 0, .int .u64 0, .nsl] : List AV) (newP h)) fun h_9 =>
  obind (ldRow h_9 6 (newP h)) fun w4 =>
  some (.ret (.agg w4), h_9))
 (
  obind (lenL t1) fun t10 =>
  lett ((t10 : Int) == 1) fun (t11 : Bool) =>
  ifB t11
  (
   obind (idxP 6 t1 0) fun t13 =>
   obind (ldRow h_2 6 t13) fun t14 =>
   obind (stRow h_2 6 t14 (newP h)) fun h_19 =>
   obind (ldRow h_19 6 (newP h)) fun w4_22 =>
   some (.ret (.agg w4_22), h_19))
  (
   obind (bldS Pg 41 [(0, .int .i64 t0), (2, t1)]) fun t17 =>
   obind (stRow h_2 6 t17 (newP h)) fun h_25 =>
   obind (ldRow h_25 6 (newP h)) fun w4_28 =>
   some (.ret (.agg w4_28), h_25)))
theorem ref09_Over_ok {call : CallF} (_ : SaysAll Pg call) {n : Nat} {t0 : Int} {t1 : AV} {h : AHeap} {rR : ARes} {hR : AHeap} (z : ref09_Over call n t0 t1 h = some (rR, hR)) : Says Pg 65 [.int .i64 t0, t1] h rR hR := by
 unfold ref09_Over at z
 refine sO Try.func65 fun w0 m0 => ?_
 refine wW [(0, .int .i64 t0), (1, t1)] ?_
 refine oG fun n1 => W.r ?_
 refine oN 4 z fun h_2 z => ?_
 refine oV [(0, .int .i64 t0), (1, t1), (4, newP h)] (n1 ?_)
 refine oH fun n4 q4 => ?_
 refine oG fun n5 => W.r ?_
 refine oA 5 t1 ?_
 refine oM 6 39 41 z fun t6 z => ?_
 refine oB 7 z fun t7 z => ?_
 refine oV [(0, .int .i64 t0), (1, t1), (4, newP h), (7, .bool t7)] (n5 ?_)
 cases t7 with
 | true =>
  refine oT z fun z => ?_
  refine oG fun n8 => W.r ?_
  refine oA 8 (.agg ([.int .i64 1, .int .u64 0, .int .u64 0, .int .u64 0, .int .u64 0, .nsl] : List AV)) ?_
  refine oW 41 (.agg ([.int .i64 1, .int .u64 0, .int .u64 0, .int .u64 0, .int .u64 0, .nsl] : List AV)) z fun h_9 z => ?_
  refine oV [(4, newP h)] (n8 (oY (q4 ?_)))
  obtain ⟨w4, e11, z⟩ := oS z
  exact lZ z [.cell 4 41] [.agg w4] (rY e11 res_nil)
 | false =>
  refine oU z fun z => ?_
  refine oZ (n4 ?_)
  refine oH fun n12 q12 => ?_
  refine oG fun n13 => W.r ?_
  refine oA 9 t1 ?_
  refine oM 10 39 41 z fun t10 z => ?_
  refine oB 11 z fun t11 z => ?_
  refine oV [(0, .int .i64 t0), (1, t1), (4, newP h), (11, .bool t11)] (n13 ?_)
  cases t11 with
  | true =>
   refine oT z fun z => ?_
   refine oG fun n16 => W.r ?_
   refine oA 12 t1 ?_
   refine oP 13 39 41 .i64 z fun t13 z => ?_
   refine oR 14 41 z fun t14 z => ?_
   refine oW 41 (.agg t14) z fun h_19 z => ?_
   refine oV [(4, newP h)] (n16 (oY (q12 ?_)))
   obtain ⟨w4_22, e21, z⟩ := oS z
   exact lZ z [.cell 4 41] [.agg w4_22] (rY e21 res_nil)
  | false =>
   refine oU z fun z => ?_
   refine oZ (n12 ?_)
   refine oG fun n23 => W.r ?_
   refine oA 15 (.int .i64 t0) ?_
   refine oA 16 t1 ?_
   obtain ⟨t17, e24, z⟩ := oS z
   refine WL.val (d := (some 17)) (v := .agg t17) (h' := h_2) (by kernel_rfl) (by kernel_rfl) (bld_ok (by kernel_rfl) e24) ?_
   refine oW 41 (.agg t17) z fun h_25 z => ?_
   refine oV [(4, newP h)] (n23 (oY ?_))
   obtain ⟨w4_28, e27, z⟩ := oS z
   exact lZ z [.cell 4 41] [.agg w4_28] (rY e27 res_nil)
set_option maxHeartbeats 4000000
set_option maxRecDepth 20000
noncomputable def ref09_alts_L0b (call : CallF) (t0 : Bytes) (h : AHeap) (self : Int → AV → AHeap → R) (t1_7 : Int) (t7 : AV) (h_8 : AHeap) : R :=
 callN (call 67 [strA t0, .int .i64 t1_7] h_8) fun r14 h_11 =>
 obind (extT 0 r14) fun v15 =>
 obind (avAgg v15) fun t15 =>
 obind (extT 1 r14) fun v16 =>
 obind (avInt .i64 v16) fun t16 =>
 obind (extT 2 r14) fun v17 =>
 obind (avBool v17) fun t17 =>
 lett (newH h_11 41 [.int .i64 0, .int .u64 0, .int .u64 0, .int .u64 0, .int .u64 0, .nsl]) fun h_19 =>
 obind (stRow h_19 6 t15 (newP h_11)) fun h_21 =>
 lett (!t17) fun (t19 : Bool) =>
 ifB t19
 (
  obind (stRow h_21 6 ([.int .i64 0, .int .u64 0, .int .u64 0, .int .u64 0, .int .u64 0, .nsl] : List AV) (newP h)) fun h_27 =>
  obind (ldRow h_27 6 (newP h)) fun w4 =>
  some (.ret (.tup [.agg w4, .int .i64 t16, .bool false]), h_27))
 (
  obind (ldRow h_21 6 (newP h_11)) fun t23 =>
  outK (bldSl Pg h_21 39 1 [(0, .agg t23)]) fun v24 h_32 =>
  outK (opAppend Pg h_32 39 39 t7 v24) fun v25 h_34 =>
  lett ((t16 : Int) == (lenS t0)) fun (t29 : Bool) =>
  lett (fun (t35 : Bool) (h_39 : AHeap) =>
   ifB t35
   (
    callN (call 65 [.int .i64 4, v25] h_39) fun r37 h_43 =>
    obind (avAgg r37) fun t37 =>
    obind (stRow h_43 6 t37 (newP h)) fun h_46 =>
    obind (ldRow h_46 6 (newP h)) fun w4_49 =>
    some (.ret (.tup [.agg w4_49, .int .i64 t16, .bool true]), h_46))
   (
    lett (IntKind.i64.wrap (t16 + 1)) fun (t40 : Int) =>
    self t40 v25 h_39)) fun j35 =>
  ifB t29
  (
   j35 true h_34)
  (
   obind (idxS t0 t16) fun t33 =>
   lett ((t33 : Int) != 124) fun (t34 : Bool) =>
   j35 t34 h_34))
noncomputable def ref09_alts_L0 (call : CallF) (t0 : Bytes) (h : AHeap) : Nat → Int → AV → AHeap → R := iterR (fun _ _ _ => none) (ref09_alts_L0b call t0 h)
theorem ref09_alts_L0_s (call : CallF) (t0 : Bytes) (h : AHeap) (m : Nat) : ref09_alts_L0 call t0 h (m + 1) = ref09_alts_L0b call t0 h (ref09_alts_L0 call t0 h m) := rfl
noncomputable def ref09_alts (call : CallF) (n : Nat) (t0 : Bytes) (t1 : Int) (h : AHeap) : R :=
 lett (newH h 41 [.int .i64 0, .int .u64 0, .int .u64 0, .int .u64 0, .int .u64 0, .nsl]) fun h_2 =>
 ref09_alts_L0 call t0 h n t1 AV.nsl h_2
theorem ref09_alts_ok {call : CallF} (hc : SaysAll Pg call) {n : Nat} {t0 : Bytes} {t1 : Int} {h : AHeap} {rR : ARes} {hR : AHeap} (z : ref09_alts call n t0 t1 h = some (rR, hR)) : Says Pg 43 [strA t0, .int .i64 t1] h rR hR := by
 unfold ref09_alts at z
 refine sO Try.func43 fun w0 m0 => ?_
 refine wW [(0, strA t0), (1, .int .i64 t1)] ?_
 refine oG fun n1 => W.r ?_
 refine oN 4 z fun h_2 z => ?_
 refine oA 5 (.int .i64 0) ?_
 refine oA 6 (.bool false) ?_
 refine oV [(0, strA t0), (1, .int .i64 t1), (4, newP h)] (n1 ?_)
 refine oG fun n4 => W.r ?_
 refine oA 7 AV.nsl ?_
 refine oV [(0, strA t0), (1, .int .i64 t1), (4, newP h), (7, AV.nsl)] (n4 ?_)
 refine W.blockK (by kernel_rfl) (fun K5 n5 s5 o5 q5 p5 => ?_)
 refine W.loopK (by kernel_rfl) (fun I6 K6 b6 n6 e6 q6 p6 => ?_)
 have L6 : ∀ (m : Nat) (t1_7 : Int) (t7 : AV) (h_8 : AHeap), ref09_alts_L0 call t0 h m t1_7 t7 h_8 = some (rR, hR) → Go w0 m0 (Func.ntmps Try.f43) I6 [(0, strA t0), (1, .int .i64 t1_7), (4, newP h), (7, t7)] [] h_8 := by
  intro m
  induction m with
  | zero => intro t1_7 t7 h_8 z; cases z
  | succ m ih6 =>
   intro t1_7 t7 h_8 z
   rw [ref09_alts_L0_s] at z; unfold ref09_alts_L0b at z
   refine b6 ?_
   refine W.blockK (by kernel_rfl) (fun K9 n9 s9 o9 q9 p9 => ?_)
   refine oG fun n10 => W.r ?_
   refine oA 12 (strA t0) ?_
   refine oA 13 (.int .i64 t1_7) ?_
   refine oC hc (some 14) z fun r14 h_11 z => ?_
   refine oA 11 r14 ?_
   refine oEa 15 z fun t15 z => ?_
   refine oEi 16 z fun t16 z => ?_
   refine oEb 17 z fun t17 z => ?_
   refine oN 8 z fun h_19 z => ?_
   refine oW 41 (.agg t15) z fun h_21 z => ?_
   refine oA 9 (.int .i64 t16) ?_
   refine oA 10 (.bool t17) ?_
   refine oV [(0, strA t0), (4, newP h), (7, t7), (8, newP h_11), (9, .int .i64 t16), (10, .bool t17)] (n10 ?_)
   refine oH fun n23 q23 => ?_
   refine oG fun n24 => W.r ?_
   refine oA 18 (.bool t17) ?_
   refine oB 19 z fun t19 z => ?_
   refine oV [(0, strA t0), (4, newP h), (7, t7), (8, newP h_11), (9, .int .i64 t16), (19, .bool t19)] (n24 ?_)
   cases t19 with
   | true =>
    refine oT z fun z => ?_
    refine oG fun n26 => W.r ?_
    refine oA 20 (.agg ([.int .i64 0, .int .u64 0, .int .u64 0, .int .u64 0, .int .u64 0, .nsl] : List AV)) ?_
    refine oA 21 (.int .i64 t16) ?_
    refine oW 41 (.agg ([.int .i64 0, .int .u64 0, .int .u64 0, .int .u64 0, .int .u64 0, .nsl] : List AV)) z fun h_27 z => ?_
    refine oA 5 (.int .i64 t16) ?_
    refine oA 6 (.bool false) ?_
    refine oV [(4, newP h), (5, .int .i64 t16), (6, .bool false)] (n26 (oY (q23 (q9 (q6 (q5 ?_))))))
    obtain ⟨w4, e29, z⟩ := oS z
    exact lZ z [.cell 4 41, .tmp 5, .tmp 6] [.agg w4, .int .i64 t16, .bool false] (rY e29 (rT (rT res_nil)))
   | false =>
    refine oU z fun z => ?_
    refine oZ (n23 ?_)
    refine oG fun n30 => W.r ?_
    refine oA 22 t7 ?_
    refine oR 23 41 z fun t23 z => ?_
    refine oK 24 z fun v24 h_32 z => ?_
    refine oK 25 z fun v25 h_34 z => ?_
    refine oA 7 v25 ?_
    refine oV [(0, strA t0), (4, newP h), (7, v25), (9, .int .i64 t16)] (n30 ?_)
    refine oH fun n36 q36 => ?_
    refine W.s (fun K37 n37 _ _ _ => ?_)
    refine W.r ?_
    refine oA 26 (.int .i64 t16) ?_
    refine oA 27 (strA t0) ?_
    refine oA 28 (.int .i64 (lenS t0)) ?_
    refine oB 29 z fun t29 z => ?_
    refine oA 30 (.bool t29) ?_
    obtain ⟨j35, e40, z⟩ := lS z
    have J41 : ∀ (t35 : Bool) (h_39 : AHeap), j35 t35 h_39 = some (rR, hR) → WL Pg w0 m0 (Func.ntmps Try.f43) (Code.ops (Code.p1 (Code.p1 (Code.p2 (Code.p2 (Code.p2 (Code.p1 (Code.p1 (Code.p1 (Code.p2 (Code.p2 (codeOf Try.f43)))))))))))) 10 K37 [(0, strA t0), (4, newP h), (7, v25), (9, .int .i64 t16), (35, .bool t35)] [] h_39 := by
     intro t35 h_39 z
     rw [e40] at z
     refine oV [(0, strA t0), (4, newP h), (7, v25), (9, .int .i64 t16), (35, .bool t35)] (n37 ?_)
     cases t35 with
     | true =>
      refine oT z fun z => ?_
      refine oG fun n42 => W.r ?_
      refine oA 36 v25 ?_
      refine oCa hc 37 z fun t37 h_43 z => ?_
      refine oA 38 (.int .i64 t16) ?_
      refine oW 41 (.agg t37) z fun h_46 z => ?_
      refine oA 5 (.int .i64 t16) ?_
      refine oA 6 (.bool true) ?_
      refine oV [(4, newP h), (5, .int .i64 t16), (6, .bool true)] (n42 (oY (q36 (q9 (q6 (q5 ?_))))))
      obtain ⟨w4_49, e48, z⟩ := oS z
      exact lZ z [.cell 4 41, .tmp 5, .tmp 6] [.agg w4_49, .int .i64 t16, .bool true] (rY e48 (rT (rT res_nil)))
     | false =>
      refine oU z fun z => ?_
      refine oZ (n36 (W.r ?_))
      refine oA 39 (.int .i64 t16) ?_
      refine oI 40 .i64 z fun t40 z => ?_
      refine oA 1 (.int .i64 t40) ?_
      refine oV [(0, strA t0), (1, .int .i64 t40), (4, newP h), (7, v25)] (n9 (n6 ?_))
      exact gW _ (ih6 _ _ _ z)
    cases t29 with
    | true =>
     replace z := ifB_t z
     refine WL.o (some 31) ?_
     refine WL.o (some 32) ?_
     refine WL.o (some 33) ?_
     refine WL.o (some 34) ?_
     refine oA 35 (.bool true) ?_
     exact lW _ (J41 _ _ z)
    | false =>
     replace z := ifB_f z
     refine oA 31 (strA t0) ?_
     refine oA 32 (.int .i64 t16) ?_
     refine oX 33 9 .i64 z fun t33 z => ?_
     refine oB 34 z fun t34 z => ?_
     refine oA 35 (.bool t34) ?_
     exact lW _ (J41 _ _ z)
 exact gW _ (L6 _ _ _ _ z)
noncomputable def ref09_row_L0b (call : CallF) (t0 : Bytes) (h : AHeap) (k7 : Int → AV → AHeap → R) (self : Int → AV → AHeap → R) (t1_18 : Int) (t7_19 : AV) (h_20 : AHeap) : R :=
 lett (decide (t1_18 < (lenS t0))) fun (t15 : Bool) =>
 lett (fun (t21 : Bool) (h_24 : AHeap) =>
  lett (fun (t27 : Bool) (h_27 : AHeap) =>
   ifB t27
   (
    callN (call 80 [strA t0, .int .i64 t1_18] h_27) fun r31 h_32 =>
    obind (extT 0 r31) fun v32 =>
    obind (avAgg v32) fun t32 =>
    obind (extT 1 r31) fun v33 =>
    obind (avInt .i64 v33) fun t33 =>
    obind (extT 2 r31) fun v34 =>
    obind (avBool v34) fun t34 =>
    lett (newH h_32 41 [.int .i64 0, .int .u64 0, .int .u64 0, .int .u64 0, .int .u64 0, .nsl]) fun h_40 =>
    obind (stRow h_40 6 t32 (newP h_32)) fun h_42 =>
    lett (!t34) fun (t36 : Bool) =>
    ifB t36
    (
     obind (stRow h_42 6 ([.int .i64 0, .int .u64 0, .int .u64 0, .int .u64 0, .int .u64 0, .nsl] : List AV) (newP h)) fun h_48 =>
     obind (ldRow h_48 6 (newP h)) fun w4_51 =>
     some (.ret (.tup [.agg w4_51, .int .i64 t33, .bool false]), h_48))
    (
     lett (decide (t33 < (lenS t0))) fun (t43 : Bool) =>
     lett (fun (t11 : Int) (h_58 : AHeap) =>
      lett (decide (t11 > 0)) fun (t54 : Bool) =>
      lett (fun (t1_63 : Int) (h_64 : AHeap) =>
       obind (ldRow h_64 6 (newP h_32)) fun t62 =>
       outK (bldSl Pg h_64 39 1 [(0, .agg t62)]) fun v63 h_66 =>
       outK (opAppend Pg h_66 39 39 t7_19 v63) fun v64 h_68 =>
       self t1_63 v64 h_68) fun k62 =>
      ifB t54
      (
       obind (ldRow h_58 6 (newP h_32)) fun t56 =>
       outK (bldSl Pg h_58 39 1 [(0, .agg t56)]) fun v57 h_72 =>
       obind (bldS Pg 41 [(0, .int .i64 t11), (2, v57)]) fun t58 =>
       obind (stRow h_72 6 t58 (newP h_32)) fun h_75 =>
       lett (IntKind.i64.wrap (t33 + 1)) fun (t60 : Int) =>
       k62 t60 h_75)
      (
       k62 t33 h_58)) fun k57 =>
     ifB t43
     (
      obind (idxS t0 t33) fun t46 =>
      lett ((t46 : Int) == 42) fun (t48 : Bool) =>
      lett (fun (t11_84 : Int) (h_85 : AHeap) =>
       k57 t11_84 h_85) fun k83 =>
      ifB t48
      (
       k83 5 h_42)
      (
       lett ((t46 : Int) == 43) fun (t50 : Bool) =>
       lett (fun (t11_89 : Int) (h_90 : AHeap) =>
        k83 t11_89 h_90) fun k88 =>
       ifB t50
       (
        k88 6 h_42)
       (
        lett ((t46 : Int) == 63) fun (t52 : Bool) =>
        lett (fun (t11_94 : Int) (h_95 : AHeap) =>
         k88 t11_94 h_95) fun k93 =>
        ifB t52
        (
         k93 7 h_42)
        (
         k93 0 h_42))))
     (
      k57 0 h_42)))
   (
    k7 t1_18 t7_19 h_27)) fun j27 =>
  ifB t21
  (
   obind (idxS t0 t1_18) fun t25 =>
   lett ((t25 : Int) != 41) fun (t26 : Bool) =>
   j27 t26 h_24)
  (
   j27 false h_24)) fun j21 =>
 ifB t15
 (
  obind (idxS t0 t1_18) fun t19 =>
  lett ((t19 : Int) != 124) fun (t20 : Bool) =>
  j21 t20 h_20)
 (
  j21 false h_20)
noncomputable def ref09_row_L0 (call : CallF) (t0 : Bytes) (h : AHeap) (k7 : Int → AV → AHeap → R) : Nat → Int → AV → AHeap → R := iterR (fun _ _ _ => none) (ref09_row_L0b call t0 h k7)
theorem ref09_row_L0_s (call : CallF) (t0 : Bytes) (h : AHeap) (k7 : Int → AV → AHeap → R) (m : Nat) : ref09_row_L0 call t0 h k7 (m + 1) = ref09_row_L0b call t0 h k7 (ref09_row_L0 call t0 h k7 m) := rfl
noncomputable def ref09_row (call : CallF) (n : Nat) (t0 : Bytes) (t1 : Int) (h : AHeap) : R :=
 lett (newH h 41 [.int .i64 0, .int .u64 0, .int .u64 0, .int .u64 0, .int .u64 0, .nsl]) fun h_2 =>
 lett (fun (t1_8 : Int) (t7 : AV) (h_9 : AHeap) =>
  callN (call 65 [.int .i64 3, t7] h_9) fun r66 h_11 =>
  obind (avAgg r66) fun t66 =>
  obind (stRow h_11 6 t66 (newP h)) fun h_14 =>
  obind (ldRow h_14 6 (newP h)) fun w4 =>
  some (.ret (.tup [.agg w4, .int .i64 t1_8, .bool true]), h_14)) fun k7 =>
 ref09_row_L0 call t0 h k7 n t1 AV.nsl h_2
theorem ref09_row_ok {call : CallF} (hc : SaysAll Pg call) {n : Nat} {t0 : Bytes} {t1 : Int} {h : AHeap} {rR : ARes} {hR : AHeap} (z : ref09_row call n t0 t1 h = some (rR, hR)) : Says Pg 67 [strA t0, .int .i64 t1] h rR hR := by
 unfold ref09_row at z
 refine sO Try.func67 fun w0 m0 => ?_
 refine wW [(0, strA t0), (1, .int .i64 t1)] ?_
 refine oG fun n1 => W.r ?_
 refine oN 4 z fun h_2 z => ?_
 refine oA 5 (.int .i64 0) ?_
 refine oA 6 (.bool false) ?_
 refine oV [(0, strA t0), (1, .int .i64 t1), (4, newP h)] (n1 ?_)
 refine oG fun n4 => W.r ?_
 refine oA 7 AV.nsl ?_
 refine oV [(0, strA t0), (1, .int .i64 t1), (4, newP h), (7, AV.nsl)] (n4 ?_)
 refine W.s (fun K5 n5 _ q5 _ => ?_)
 obtain ⟨k7, e7, z⟩ := lS z
 have J7 : ∀ (t1_8 : Int) (t7 : AV) (h_9 : AHeap), k7 t1_8 t7 h_9 = some (rR, hR) → Go w0 m0 (Func.ntmps Try.f67) (K5 .normal) [(1, .int .i64 t1_8), (4, newP h), (7, t7)] [] h_9 := by
  intro t1_8 t7 h_9 z
  rw [e7] at z
  refine n5 ?_
  refine oG fun n10 => W.r ?_
  refine oA 65 t7 ?_
  refine oCa hc 66 z fun t66 h_11 z => ?_
  refine oA 67 (.int .i64 t1_8) ?_
  refine oW 41 (.agg t66) z fun h_14 z => ?_
  refine oA 5 (.int .i64 t1_8) ?_
  refine oA 6 (.bool true) ?_
  refine oV [(4, newP h), (5, .int .i64 t1_8), (6, .bool true)] (n10 (oY ?_))
  obtain ⟨w4, e16, z⟩ := oS z
  exact lZ z [.cell 4 41, .tmp 5, .tmp 6] [.agg w4, .int .i64 t1_8, .bool true] (rY e16 (rT (rT res_nil)))
 refine W.blockK (by kernel_rfl) (fun K6 n6 s6 o6 q6 p6 => ?_)
 refine W.loopK (by kernel_rfl) (fun I17 K17 b17 n17 e17 q17 p17 => ?_)
 have L17 : ∀ (m : Nat) (t1_18 : Int) (t7_19 : AV) (h_20 : AHeap), ref09_row_L0 call t0 h k7 m t1_18 t7_19 h_20 = some (rR, hR) → Go w0 m0 (Func.ntmps Try.f67) I17 [(0, strA t0), (1, .int .i64 t1_18), (4, newP h), (7, t7_19)] [] h_20 := by
  intro m
  induction m with
  | zero => intro t1_18 t7_19 h_20 z; cases z
  | succ m ih17 =>
   intro t1_18 t7_19 h_20 z
   rw [ref09_row_L0_s] at z; unfold ref09_row_L0b at z
   refine b17 ?_
   refine W.s (fun _ n21 e21 _ _ => ?_)
   refine W.s (fun K22 n22 _ _ _ => ?_)
   refine W.r ?_
   refine oA 12 (.int .i64 t1_18) ?_
   refine oA 13 (strA t0) ?_
   refine oA 14 (.int .i64 (lenS t0)) ?_
   refine oB 15 z fun t15 z => ?_
   refine oA 16 (.bool t15) ?_
   obtain ⟨j21, e25, z⟩ := lS z
   have J26 : ∀ (t21 : Bool) (h_24 : AHeap), j21 t21 h_24 = some (rR, hR) → WL Pg w0 m0 (Func.ntmps Try.f67) (Code.ops (Code.p1 (Code.p1 (Code.p1 (Code.p1 (Code.p1 (Code.p2 (Code.p2 (codeOf Try.f67))))))))) 10 K22 [(0, strA t0), (1, .int .i64 t1_18), (4, newP h), (7, t7_19), (21, .bool t21)] [] h_24 := by
    intro t21 h_24 z
    rw [e25] at z
    refine oA 22 (.bool t21) ?_
    obtain ⟨j27, e28, z⟩ := lS z
    have J29 : ∀ (t27 : Bool) (h_27 : AHeap), j27 t27 h_27 = some (rR, hR) → WL Pg w0 m0 (Func.ntmps Try.f67) (Code.ops (Code.p1 (Code.p1 (Code.p1 (Code.p1 (Code.p1 (Code.p2 (Code.p2 (codeOf Try.f67))))))))) 16 K22 [(0, strA t0), (1, .int .i64 t1_18), (4, newP h), (7, t7_19), (27, .bool t27)] [] h_27 := by
     intro t27 h_27 z
     rw [e28] at z
     refine oV [(0, strA t0), (1, .int .i64 t1_18), (4, newP h), (7, t7_19), (27, .bool t27)] (n22 ?_)
     cases t27 with
     | true =>
      refine oT z fun z => ?_
      refine oZ (n21 ?_)
      refine W.blockK (by kernel_rfl) (fun K30 n30 s30 o30 q30 p30 => ?_)
      refine oG fun n31 => W.r ?_
      refine oA 29 (strA t0) ?_
      refine oA 30 (.int .i64 t1_18) ?_
      refine oC hc (some 31) z fun r31 h_32 z => ?_
      refine oA 28 r31 ?_
      refine oEa 32 z fun t32 z => ?_
      refine oEi 33 z fun t33 z => ?_
      refine oEb 34 z fun t34 z => ?_
      refine oN 8 z fun h_40 z => ?_
      refine oW 41 (.agg t32) z fun h_42 z => ?_
      refine oA 9 (.int .i64 t33) ?_
      refine oA 10 (.bool t34) ?_
      refine oV [(0, strA t0), (4, newP h), (7, t7_19), (8, newP h_32), (9, .int .i64 t33), (10, .bool t34)] (n31 ?_)
      refine oH fun n44 q44 => ?_
      refine oG fun n45 => W.r ?_
      refine oA 35 (.bool t34) ?_
      refine oB 36 z fun t36 z => ?_
      refine oV [(0, strA t0), (4, newP h), (7, t7_19), (8, newP h_32), (9, .int .i64 t33), (36, .bool t36)] (n45 ?_)
      cases t36 with
      | true =>
       refine oT z fun z => ?_
       refine oG fun n47 => W.r ?_
       refine oA 37 (.agg ([.int .i64 0, .int .u64 0, .int .u64 0, .int .u64 0, .int .u64 0, .nsl] : List AV)) ?_
       refine oA 38 (.int .i64 t33) ?_
       refine oW 41 (.agg ([.int .i64 0, .int .u64 0, .int .u64 0, .int .u64 0, .int .u64 0, .nsl] : List AV)) z fun h_48 z => ?_
       refine oA 5 (.int .i64 t33) ?_
       refine oA 6 (.bool false) ?_
       refine oV [(4, newP h), (5, .int .i64 t33), (6, .bool false)] (n47 (oY (q44 (q30 (q17 (q6 (q5 ?_)))))))
       obtain ⟨w4_51, e50, z⟩ := oS z
       exact lZ z [.cell 4 41, .tmp 5, .tmp 6] [.agg w4_51, .int .i64 t33, .bool false] (rY e50 (rT (rT res_nil)))
      | false =>
       refine oU z fun z => ?_
       refine oZ (n44 ?_)
       refine oG fun n52 => W.r ?_
       refine oA 39 (.int .i64 t33) ?_
       refine oA 1 (.int .i64 t33) ?_
       refine oV [(0, strA t0), (1, .int .i64 t33), (4, newP h), (7, t7_19), (8, newP h_32)] (n52 ?_)
       refine oG fun n53 => W.r ?_
       refine oA 11 (.int .i64 0) ?_
       refine oV [(0, strA t0), (1, .int .i64 t33), (4, newP h), (7, t7_19), (8, newP h_32), (11, .int .i64 0)] (n53 ?_)
       refine W.s (fun K54 n54 _ _ _ => ?_)
       refine oG fun n55 => W.r ?_
       refine oA 40 (.int .i64 t33) ?_
       refine oA 41 (strA t0) ?_
       refine oA 42 (.int .i64 (lenS t0)) ?_
       refine oB 43 z fun t43 z => ?_
       refine oV [(0, strA t0), (1, .int .i64 t33), (4, newP h), (7, t7_19), (8, newP h_32), (11, .int .i64 0), (43, .bool t43)] (n55 ?_)
       obtain ⟨k57, e57, z⟩ := lS z
       have J57 : ∀ (t11 : Int) (h_58 : AHeap), k57 t11 h_58 = some (rR, hR) → Go w0 m0 (Func.ntmps Try.f67) (K54 .normal) [(0, strA t0), (1, .int .i64 t33), (4, newP h), (7, t7_19), (8, newP h_32), (11, .int .i64 t11)] [] h_58 := by
        intro t11 h_58 z
        rw [e57] at z
        refine n54 ?_
        refine W.s (fun K59 n59 _ _ _ => ?_)
        refine oG fun n60 => W.r ?_
        refine oA 53 (.int .i64 t11) ?_
        refine oB 54 z fun t54 z => ?_
        refine oV [(0, strA t0), (1, .int .i64 t33), (4, newP h), (7, t7_19), (8, newP h_32), (11, .int .i64 t11), (54, .bool t54)] (n60 ?_)
        obtain ⟨k62, e62, z⟩ := lS z
        have J62 : ∀ (t1_63 : Int) (h_64 : AHeap), k62 t1_63 h_64 = some (rR, hR) → Go w0 m0 (Func.ntmps Try.f67) (K59 .normal) [(0, strA t0), (1, .int .i64 t1_63), (4, newP h), (7, t7_19), (8, newP h_32)] [] h_64 := by
         intro t1_63 h_64 z
         rw [e62] at z
         refine n59 (W.r ?_)
         refine oA 61 t7_19 ?_
         refine oR 62 41 z fun t62 z => ?_
         refine oK 63 z fun v63 h_66 z => ?_
         refine oK 64 z fun v64 h_68 z => ?_
         refine oA 7 v64 ?_
         refine oV [(0, strA t0), (1, .int .i64 t1_63), (4, newP h), (7, v64)] (n30 (n17 ?_))
         exact gW _ (ih17 _ _ _ z)
        cases t54 with
        | true =>
         refine oT z fun z => ?_
         refine oG fun n70 => W.r ?_
         refine oA 55 (.int .i64 t11) ?_
         refine oR 56 41 z fun t56 z => ?_
         refine oK 57 z fun v57 h_72 z => ?_
         obtain ⟨t58, e74, z⟩ := oS z
         refine WL.val (d := (some 58)) (v := .agg t58) (h' := h_72) (by kernel_rfl) (by kernel_rfl) (bld_ok (by kernel_rfl) e74) ?_
         refine oW 41 (.agg t58) z fun h_75 z => ?_
         refine oV [(0, strA t0), (1, .int .i64 t33), (4, newP h), (7, t7_19), (8, newP h_32)] (n70 (W.r ?_))
         refine oA 59 (.int .i64 t33) ?_
         refine oI 60 .i64 z fun t60 z => ?_
         refine oA 1 (.int .i64 t60) ?_
         refine oV [(0, strA t0), (1, .int .i64 t60), (4, newP h), (7, t7_19), (8, newP h_32)] ?_
         exact gW _ (J62 _ _ z)
        | false =>
         refine oU z fun z => ?_
         refine oZ ?_
         exact gW _ (J62 _ _ z)
       cases t43 with
       | true =>
        refine oT z fun z => ?_
        refine oG fun n78 => W.r ?_
        refine oA 44 (strA t0) ?_
        refine oA 45 (.int .i64 t33) ?_
        refine oX 46 9 .i64 z fun t46 z => ?_
        refine oV [(0, strA t0), (1, .int .i64 t33), (4, newP h), (7, t7_19), (8, newP h_32), (11, .int .i64 0), (46, .int .u8 t46)] (n78 ?_)
        refine W.blockK (by kernel_rfl) (fun K80 n80 s80 o80 q80 p80 => ?_)
        refine oG fun n81 => W.r ?_
        refine oB 48 z fun t48 z => ?_
        refine oA 47 (.bool t48) ?_
        refine oV [(0, strA t0), (1, .int .i64 t33), (4, newP h), (7, t7_19), (8, newP h_32), (11, .int .i64 0), (46, .int .u8 t46), (47, .bool t48)] (n81 ?_)
        obtain ⟨k83, e83, z⟩ := lS z
        have J83 : ∀ (t11_84 : Int) (h_85 : AHeap), k83 t11_84 h_85 = some (rR, hR) → Go w0 m0 (Func.ntmps Try.f67) (K80 .normal) [(0, strA t0), (1, .int .i64 t33), (4, newP h), (7, t7_19), (8, newP h_32), (11, .int .i64 t11_84)] [] h_85 := by
         intro t11_84 h_85 z
         rw [e83] at z
         refine n80 ?_
         exact gW _ (J57 _ _ z)
        cases t48 with
        | true =>
         refine oT z fun z => ?_
         refine W.r ?_
         refine oA 11 (.int .i64 5) ?_
         refine oV [(0, strA t0), (1, .int .i64 t33), (4, newP h), (7, t7_19), (8, newP h_32), (11, .int .i64 5)] ?_
         exact gW _ (J83 _ _ z)
        | false =>
         refine oU z fun z => ?_
         refine oG fun n86 => W.r ?_
         refine oB 50 z fun t50 z => ?_
         refine oA 49 (.bool t50) ?_
         refine oV [(0, strA t0), (1, .int .i64 t33), (4, newP h), (7, t7_19), (8, newP h_32), (11, .int .i64 0), (46, .int .u8 t46), (49, .bool t50)] (n86 ?_)
         obtain ⟨k88, e88, z⟩ := lS z
         have J88 : ∀ (t11_89 : Int) (h_90 : AHeap), k88 t11_89 h_90 = some (rR, hR) → Go w0 m0 (Func.ntmps Try.f67) (K80 .normal) [(0, strA t0), (1, .int .i64 t33), (4, newP h), (7, t7_19), (8, newP h_32), (11, .int .i64 t11_89)] [] h_90 := by
          intro t11_89 h_90 z
          rw [e88] at z
          exact gW _ (J83 _ _ z)
         cases t50 with
         | true =>
          refine oT z fun z => ?_
          refine W.r ?_
          refine oA 11 (.int .i64 6) ?_
          refine oV [(0, strA t0), (1, .int .i64 t33), (4, newP h), (7, t7_19), (8, newP h_32), (11, .int .i64 6)] ?_
          exact gW _ (J88 _ _ z)
         | false =>
          refine oU z fun z => ?_
          refine oG fun n91 => W.r ?_
          refine oB 52 z fun t52 z => ?_
          refine oA 51 (.bool t52) ?_
          refine oV [(0, strA t0), (1, .int .i64 t33), (4, newP h), (7, t7_19), (8, newP h_32), (11, .int .i64 0), (51, .bool t52)] (n91 ?_)
          obtain ⟨k93, e93, z⟩ := lS z
          have J93 : ∀ (t11_94 : Int) (h_95 : AHeap), k93 t11_94 h_95 = some (rR, hR) → Go w0 m0 (Func.ntmps Try.f67) (K80 .normal) [(0, strA t0), (1, .int .i64 t33), (4, newP h), (7, t7_19), (8, newP h_32), (11, .int .i64 t11_94)] [] h_95 := by
           intro t11_94 h_95 z
           rw [e93] at z
           exact gW _ (J88 _ _ z)
          cases t52 with
          | true =>
           refine oT z fun z => ?_
           refine W.r ?_
           refine oA 11 (.int .i64 7) ?_
           refine oV [(0, strA t0), (1, .int .i64 t33), (4, newP h), (7, t7_19), (8, newP h_32), (11, .int .i64 7)] ?_
           exact gW _ (J93 _ _ z)
          | false =>
           refine oU z fun z => ?_
           refine oZ ?_
           exact gW _ (J93 _ _ z)
       | false =>
        refine oU z fun z => ?_
        refine oZ ?_
        exact gW _ (J57 _ _ z)
     | false =>
      refine oU z fun z => ?_
      refine W.exit (by kernel_rfl) ?_
      refine e21 (e17 ?_)
      refine s6 (by kernel_rfl) ?_
      exact gW _ (J7 _ _ _ z)
    cases t21 with
    | true =>
     replace z := ifB_t z
     refine oA 23 (strA t0) ?_
     refine oA 24 (.int .i64 t1_18) ?_
     refine oX 25 9 .i64 z fun t25 z => ?_
     refine oB 26 z fun t26 z => ?_
     refine oA 27 (.bool t26) ?_
     exact lW _ (J29 _ _ z)
    | false =>
     replace z := ifB_f z
     refine WL.o (some 23) ?_
     refine WL.o (some 24) ?_
     refine WL.o (some 25) ?_
     refine WL.o (some 26) ?_
     refine oA 27 (.bool false) ?_
     exact lW _ (J29 _ _ z)
   cases t15 with
   | true =>
    replace z := ifB_t z
    refine oA 17 (strA t0) ?_
    refine oA 18 (.int .i64 t1_18) ?_
    refine oX 19 9 .i64 z fun t19 z => ?_
    refine oB 20 z fun t20 z => ?_
    refine oA 21 (.bool t20) ?_
    exact lW _ (J26 _ _ z)
   | false =>
    replace z := ifB_f z
    refine WL.o (some 17) ?_
    refine WL.o (some 18) ?_
    refine WL.o (some 19) ?_
    refine WL.o (some 20) ?_
    refine oA 21 (.bool false) ?_
    exact lW _ (J26 _ _ z)
 exact gW _ (L17 _ _ _ _ z)
noncomputable def ref09_atom (call : CallF) (_ : Nat) (t0 : Bytes) (t1 : Int) (h : AHeap) : R :=
 lett (newH h 41 [.int .i64 0, .int .u64 0, .int .u64 0, .int .u64 0, .int .u64 0, .nsl]) fun h_2 =>
 obind (idxS t0 t1) fun t12 =>
 lett ((t12 : Int) == 40) fun (t14 : Bool) =>
 ifB t14
 (
  lett (IntKind.i64.wrap (t1 + 1)) fun (t18 : Int) =>
  callN (call 43 [strA t0, .int .i64 t18] h_2) fun r19 h_12 =>
  obind (extT 0 r19) fun v20 =>
  obind (avAgg v20) fun t20 =>
  obind (extT 1 r19) fun v21 =>
  obind (avInt .i64 v21) fun t21 =>
  obind (extT 2 r19) fun v22 =>
  obind (avBool v22) fun t22 =>
  lett (newH h_12 41 [.int .i64 0, .int .u64 0, .int .u64 0, .int .u64 0, .int .u64 0, .nsl]) fun h_20 =>
  obind (stRow h_20 6 t20 (newP h_12)) fun h_22 =>
  lett (!t22) fun (t24 : Bool) =>
  ifB t24
  (
   obind (ldRow h_22 6 (newP h_12)) fun t25 =>
   obind (stRow h_22 6 t25 (newP h)) fun h_29 =>
   obind (ldRow h_29 6 (newP h)) fun w4 =>
   some (.ret (.tup [.agg w4, .int .i64 t21, .bool false]), h_29))
  (
   lett ((t21 : Int) == (lenS t0)) fun (t30 : Bool) =>
   ifB t30
   (
    obind (stRow h_22 6 ([.int .i64 0, .int .u64 0, .int .u64 0, .int .u64 0, .int .u64 0, .nsl] : List AV) (newP h)) fun h_36 =>
    obind (ldRow h_36 6 (newP h)) fun w4_39 =>
    some (.ret (.tup [.agg w4_39, .int .i64 t21, .bool false]), h_36))
   (
    obind (ldRow h_22 6 (newP h_12)) fun t33 =>
    lett (IntKind.i64.wrap (t21 + 1)) fun (t35 : Int) =>
    obind (stRow h_22 6 t33 (newP h)) fun h_43 =>
    obind (ldRow h_43 6 (newP h)) fun w4_46 =>
    some (.ret (.tup [.agg w4_46, .int .i64 t35, .bool true]), h_43))))
 (
  lett ((t12 : Int) == 91) fun (t37 : Bool) =>
  ifB t37
  (
   lett (IntKind.i64.wrap (t1 + 1)) fun (t40 : Int) =>
   callN (call 86 [strA t0, .int .i64 t40] h_2) fun r41 h_51 =>
   obind (extT 0 r41) fun v42 =>
   obind (avAgg v42) fun t42 =>
   obind (extT 1 r41) fun v43 =>
   obind (avInt .i64 v43) fun t43 =>
   obind (extT 2 r41) fun v44 =>
   obind (avBool v44) fun t44 =>
   obind (stRow h_51 6 t42 (newP h)) fun h_59 =>
   obind (ldRow h_59 6 (newP h)) fun w4_62 =>
   some (.ret (.tup [.agg w4_62, .int .i64 t43, .bool t44]), h_59))
  (
   lett ((t12 : Int) == 46) fun (t46 : Bool) =>
   ifB t46
   (
    callN (call 66 [] h_2) fun r47 h_66 =>
    obind (avAgg r47) fun t47 =>
    lett (IntKind.i64.wrap (t1 + 1)) fun (t49 : Int) =>
    obind (stRow h_66 6 t47 (newP h)) fun h_70 =>
    obind (ldRow h_70 6 (newP h)) fun w4_73 =>
    some (.ret (.tup [.agg w4_73, .int .i64 t49, .bool true]), h_70))
   (
    lett ((t12 : Int) == 42) fun (t51 : Bool) =>
    lett (fun (t50 : Bool) (h_78 : AHeap) =>
     ifB t50
     (
      obind (stRow h_78 6 ([.int .i64 0, .int .u64 0, .int .u64 0, .int .u64 0, .int .u64 0, .nsl] : List AV) (newP h)) fun h_80 =>
      obind (ldRow h_80 6 (newP h)) fun w4_83 =>
      some (.ret (.tup [.agg w4_83, .int .i64 t1, .bool false]), h_80))
     (
      lett ((t12 : Int) == 92) fun (t58 : Bool) =>
      ifB t58
      (
       lett (IntKind.i64.wrap (t1 + 1)) fun (t60 : Int) =>
       lett ((t60 : Int) == (lenS t0)) fun (t63 : Bool) =>
       ifB t63
       (
        lett (IntKind.i64.wrap (t1 + 1)) fun (t66 : Int) =>
        obind (stRow h_78 6 ([.int .i64 0, .int .u64 0, .int .u64 0, .int .u64 0, .int .u64 0, .nsl] : List AV) (newP h)) fun h_92 =>
        obind (ldRow h_92 6 (newP h)) fun w4_95 =>
        some (.ret (.tup [.agg w4_95, .int .i64 t66, .bool false]), h_92))
       (
        lett (IntKind.i64.wrap (t1 + 1)) fun (t69 : Int) =>
        obind (idxS t0 t69) fun t70 =>
        callN (call 64 [.int .u8 t70] h_78) fun r71 h_99 =>
        obind (avAgg r71) fun t71 =>
        lett (IntKind.i64.wrap (t1 + 2)) fun (t73 : Int) =>
        obind (stRow h_99 6 t71 (newP h)) fun h_103 =>
        obind (ldRow h_103 6 (newP h)) fun w4_106 =>
        some (.ret (.tup [.agg w4_106, .int .i64 t73, .bool true]), h_103)))
      (
       obind (idxS t0 t1) fun t76 =>
       callN (call 64 [.int .u8 t76] h_78) fun r77 h_109 =>
       obind (avAgg r77) fun t77 =>
       lett (IntKind.i64.wrap (t1 + 1)) fun (t79 : Int) =>
       obind (stRow h_109 6 t77 (newP h)) fun h_113 =>
       obind (ldRow h_113 6 (newP h)) fun w4_116 =>
       some (.ret (.tup [.agg w4_116, .int .i64 t79, .bool true]), h_113)))) fun k77 =>
    ifB t51
    (
     k77 true h_2)
    (
     lett ((t12 : Int) == 43) fun (t52 : Bool) =>
     lett (fun (t50_120 : Bool) (h_121 : AHeap) =>
      k77 t50_120 h_121) fun k119 =>
     ifB t52
     (
      k119 true h_2)
     (
      lett ((t12 : Int) == 63) fun (t53 : Bool) =>
      lett (fun (t50_125 : Bool) (h_126 : AHeap) =>
       k119 t50_125 h_126) fun k124 =>
      ifB t53
      (
       k124 true h_2)
      (
       lett ((t12 : Int) == 93) fun (t54 : Bool) =>
       k124 t54 h_2))))))
theorem ref09_atom_ok {call : CallF} (hc : SaysAll Pg call) {n : Nat} {t0 : Bytes} {t1 : Int} {h : AHeap} {rR : ARes} {hR : AHeap} (z : ref09_atom call n t0 t1 h = some (rR, hR)) : Says Pg 80 [strA t0, .int .i64 t1] h rR hR := by
 unfold ref09_atom at z
 refine sO Try.func80 fun w0 m0 => ?_
 refine wW [(0, strA t0), (1, .int .i64 t1)] ?_
 refine oG fun n1 => W.r ?_
 refine oN 4 z fun h_2 z => ?_
 refine oA 5 (.int .i64 0) ?_
 refine oA 6 (.bool false) ?_
 refine oV [(0, strA t0), (1, .int .i64 t1), (4, newP h)] (n1 ?_)
 refine oH fun n4 q4 => ?_
 refine oG fun n5 => W.r ?_
 refine oA 10 (strA t0) ?_
 refine oA 11 (.int .i64 t1) ?_
 refine oX 12 9 .i64 z fun t12 z => ?_
 refine oV [(0, strA t0), (1, .int .i64 t1), (4, newP h), (12, .int .u8 t12)] (n5 ?_)
 refine W.blockK (by kernel_rfl) (fun K7 n7 s7 o7 q7 p7 => ?_)
 refine oG fun n8 => W.r ?_
 refine oB 14 z fun t14 z => ?_
 refine oA 13 (.bool t14) ?_
 refine oV [(0, strA t0), (1, .int .i64 t1), (4, newP h), (12, .int .u8 t12), (13, .bool t14)] (n8 ?_)
 cases t14 with
 | true =>
  refine oT z fun z => ?_
  refine oG fun n10 => W.r ?_
  refine oA 16 (strA t0) ?_
  refine oA 17 (.int .i64 t1) ?_
  refine oI 18 .i64 z fun t18 z => ?_
  refine oC hc (some 19) z fun r19 h_12 z => ?_
  refine oA 15 r19 ?_
  refine oEa 20 z fun t20 z => ?_
  refine oEi 21 z fun t21 z => ?_
  refine oEb 22 z fun t22 z => ?_
  refine oN 7 z fun h_20 z => ?_
  refine oW 41 (.agg t20) z fun h_22 z => ?_
  refine oA 8 (.int .i64 t21) ?_
  refine oA 9 (.bool t22) ?_
  refine oV [(0, strA t0), (4, newP h), (7, newP h_12), (8, .int .i64 t21), (9, .bool t22)] (n10 ?_)
  refine oH fun n24 q24 => ?_
  refine oG fun n25 => W.r ?_
  refine oA 23 (.bool t22) ?_
  refine oB 24 z fun t24 z => ?_
  refine oV [(0, strA t0), (4, newP h), (7, newP h_12), (8, .int .i64 t21), (24, .bool t24)] (n25 ?_)
  cases t24 with
  | true =>
   refine oT z fun z => ?_
   refine oG fun n27 => W.r ?_
   refine oR 25 41 z fun t25 z => ?_
   refine oA 26 (.int .i64 t21) ?_
   refine oW 41 (.agg t25) z fun h_29 z => ?_
   refine oA 5 (.int .i64 t21) ?_
   refine oA 6 (.bool false) ?_
   refine oV [(4, newP h), (5, .int .i64 t21), (6, .bool false)] (n27 (oY (q24 (q7 (q4 ?_)))))
   obtain ⟨w4, e31, z⟩ := oS z
   exact lZ z [.cell 4 41, .tmp 5, .tmp 6] [.agg w4, .int .i64 t21, .bool false] (rY e31 (rT (rT res_nil)))
  | false =>
   refine oU z fun z => ?_
   refine oZ (n24 ?_)
   refine oH fun n32 q32 => ?_
   refine oG fun n33 => W.r ?_
   refine oA 27 (.int .i64 t21) ?_
   refine oA 28 (strA t0) ?_
   refine oA 29 (.int .i64 (lenS t0)) ?_
   refine oB 30 z fun t30 z => ?_
   refine oV [(4, newP h), (7, newP h_12), (8, .int .i64 t21), (30, .bool t30)] (n33 ?_)
   cases t30 with
   | true =>
    refine oT z fun z => ?_
    refine oG fun n35 => W.r ?_
    refine oA 31 (.agg ([.int .i64 0, .int .u64 0, .int .u64 0, .int .u64 0, .int .u64 0, .nsl] : List AV)) ?_
    refine oA 32 (.int .i64 t21) ?_
    refine oW 41 (.agg ([.int .i64 0, .int .u64 0, .int .u64 0, .int .u64 0, .int .u64 0, .nsl] : List AV)) z fun h_36 z => ?_
    refine oA 5 (.int .i64 t21) ?_
    refine oA 6 (.bool false) ?_
    refine oV [(4, newP h), (5, .int .i64 t21), (6, .bool false)] (n35 (oY (q32 (q7 (q4 ?_)))))
    obtain ⟨w4_39, e38, z⟩ := oS z
    exact lZ z [.cell 4 41, .tmp 5, .tmp 6] [.agg w4_39, .int .i64 t21, .bool false] (rY e38 (rT (rT res_nil)))
   | false =>
    refine oU z fun z => ?_
    refine oZ (n32 ?_)
    refine oG fun n40 => W.r ?_
    refine oR 33 41 z fun t33 z => ?_
    refine oA 34 (.int .i64 t21) ?_
    refine oI 35 .i64 z fun t35 z => ?_
    refine oW 41 (.agg t33) z fun h_43 z => ?_
    refine oA 5 (.int .i64 t35) ?_
    refine oA 6 (.bool true) ?_
    refine oV [(4, newP h), (5, .int .i64 t35), (6, .bool true)] (n40 (oY (q7 (q4 ?_))))
    obtain ⟨w4_46, e45, z⟩ := oS z
    exact lZ z [.cell 4 41, .tmp 5, .tmp 6] [.agg w4_46, .int .i64 t35, .bool true] (rY e45 (rT (rT res_nil)))
 | false =>
  refine oU z fun z => ?_
  refine oG fun n47 => W.r ?_
  refine oB 37 z fun t37 z => ?_
  refine oA 36 (.bool t37) ?_
  refine oV [(0, strA t0), (1, .int .i64 t1), (4, newP h), (12, .int .u8 t12), (36, .bool t37)] (n47 ?_)
  cases t37 with
  | true =>
   refine oT z fun z => ?_
   refine oG fun n49 => W.r ?_
   refine oA 38 (strA t0) ?_
   refine oA 39 (.int .i64 t1) ?_
   refine oI 40 .i64 z fun t40 z => ?_
   refine oC hc (some 41) z fun r41 h_51 z => ?_
   refine oEa 42 z fun t42 z => ?_
   refine oEi 43 z fun t43 z => ?_
   refine oEb 44 z fun t44 z => ?_
   refine oW 41 (.agg t42) z fun h_59 z => ?_
   refine oA 5 (.int .i64 t43) ?_
   refine oA 6 (.bool t44) ?_
   refine oV [(4, newP h), (5, .int .i64 t43), (6, .bool t44)] (n49 (oY (q7 (q4 ?_))))
   obtain ⟨w4_62, e61, z⟩ := oS z
   exact lZ z [.cell 4 41, .tmp 5, .tmp 6] [.agg w4_62, .int .i64 t43, .bool t44] (rY e61 (rT (rT res_nil)))
  | false =>
   refine oU z fun z => ?_
   refine oG fun n63 => W.r ?_
   refine oB 46 z fun t46 z => ?_
   refine oA 45 (.bool t46) ?_
   refine oV [(0, strA t0), (1, .int .i64 t1), (4, newP h), (12, .int .u8 t12), (45, .bool t46)] (n63 ?_)
   cases t46 with
   | true =>
    refine oT z fun z => ?_
    refine oG fun n65 => W.r ?_
    refine oCa hc 47 z fun t47 h_66 z => ?_
    refine oA 48 (.int .i64 t1) ?_
    refine oI 49 .i64 z fun t49 z => ?_
    refine oW 41 (.agg t47) z fun h_70 z => ?_
    refine oA 5 (.int .i64 t49) ?_
    refine oA 6 (.bool true) ?_
    refine oV [(4, newP h), (5, .int .i64 t49), (6, .bool true)] (n65 (oY (q7 (q4 ?_))))
    obtain ⟨w4_73, e72, z⟩ := oS z
    exact lZ z [.cell 4 41, .tmp 5, .tmp 6] [.agg w4_73, .int .i64 t49, .bool true] (rY e72 (rT (rT res_nil)))
   | false =>
    refine oU z fun z => ?_
    refine W.s (fun K74 n74 _ _ _ => ?_)
    refine oG fun n75 => W.r ?_
    refine oB 51 z fun t51 z => ?_
    refine oA 50 (.bool t51) ?_
    refine oV [(0, strA t0), (1, .int .i64 t1), (4, newP h), (12, .int .u8 t12), (50, .bool t51)] (n75 ?_)
    obtain ⟨k77, e77, z⟩ := lS z
    have J77 : ∀ (t50 : Bool) (h_78 : AHeap), k77 t50 h_78 = some (rR, hR) → Go w0 m0 (Func.ntmps Try.f80) (K74 .normal) [(0, strA t0), (1, .int .i64 t1), (4, newP h), (12, .int .u8 t12), (50, .bool t50)] [] h_78 := by
     intro t50 h_78 z
     rw [e77] at z
     refine n74 ?_
     cases t50 with
     | true =>
      refine oT z fun z => ?_
      refine oG fun n79 => W.r ?_
      refine oA 55 (.agg ([.int .i64 0, .int .u64 0, .int .u64 0, .int .u64 0, .int .u64 0, .nsl] : List AV)) ?_
      refine oA 56 (.int .i64 t1) ?_
      refine oW 41 (.agg ([.int .i64 0, .int .u64 0, .int .u64 0, .int .u64 0, .int .u64 0, .nsl] : List AV)) z fun h_80 z => ?_
      refine oA 5 (.int .i64 t1) ?_
      refine oA 6 (.bool false) ?_
      refine oV [(4, newP h), (5, .int .i64 t1), (6, .bool false)] (n79 (oY (q7 (q4 ?_))))
      obtain ⟨w4_83, e82, z⟩ := oS z
      exact lZ z [.cell 4 41, .tmp 5, .tmp 6] [.agg w4_83, .int .i64 t1, .bool false] (rY e82 (rT (rT res_nil)))
     | false =>
      refine oU z fun z => ?_
      refine oG fun n84 => W.r ?_
      refine oB 58 z fun t58 z => ?_
      refine oA 57 (.bool t58) ?_
      refine oV [(0, strA t0), (1, .int .i64 t1), (4, newP h), (57, .bool t58)] (n84 ?_)
      cases t58 with
      | true =>
       refine oT z fun z => ?_
       refine oH fun n86 q86 => ?_
       refine oG fun n87 => W.r ?_
       refine oA 59 (.int .i64 t1) ?_
       refine oI 60 .i64 z fun t60 z => ?_
       refine oA 61 (strA t0) ?_
       refine oA 62 (.int .i64 (lenS t0)) ?_
       refine oB 63 z fun t63 z => ?_
       refine oV [(0, strA t0), (1, .int .i64 t1), (4, newP h), (63, .bool t63)] (n87 ?_)
       cases t63 with
       | true =>
        refine oT z fun z => ?_
        refine oG fun n90 => W.r ?_
        refine oA 64 (.agg ([.int .i64 0, .int .u64 0, .int .u64 0, .int .u64 0, .int .u64 0, .nsl] : List AV)) ?_
        refine oA 65 (.int .i64 t1) ?_
        refine oI 66 .i64 z fun t66 z => ?_
        refine oW 41 (.agg ([.int .i64 0, .int .u64 0, .int .u64 0, .int .u64 0, .int .u64 0, .nsl] : List AV)) z fun h_92 z => ?_
        refine oA 5 (.int .i64 t66) ?_
        refine oA 6 (.bool false) ?_
        refine oV [(4, newP h), (5, .int .i64 t66), (6, .bool false)] (n90 (oY (q86 (q7 (q4 ?_)))))
        obtain ⟨w4_95, e94, z⟩ := oS z
        exact lZ z [.cell 4 41, .tmp 5, .tmp 6] [.agg w4_95, .int .i64 t66, .bool false] (rY e94 (rT (rT res_nil)))
       | false =>
        refine oU z fun z => ?_
        refine oZ (n86 ?_)
        refine oG fun n96 => W.r ?_
        refine oA 67 (strA t0) ?_
        refine oA 68 (.int .i64 t1) ?_
        refine oI 69 .i64 z fun t69 z => ?_
        refine oX 70 9 .i64 z fun t70 z => ?_
        refine oCa hc 71 z fun t71 h_99 z => ?_
        refine oA 72 (.int .i64 t1) ?_
        refine oI 73 .i64 z fun t73 z => ?_
        refine oW 41 (.agg t71) z fun h_103 z => ?_
        refine oA 5 (.int .i64 t73) ?_
        refine oA 6 (.bool true) ?_
        refine oV [(4, newP h), (5, .int .i64 t73), (6, .bool true)] (n96 (oY (q7 (q4 ?_))))
        obtain ⟨w4_106, e105, z⟩ := oS z
        exact lZ z [.cell 4 41, .tmp 5, .tmp 6] [.agg w4_106, .int .i64 t73, .bool true] (rY e105 (rT (rT res_nil)))
      | false =>
       refine oU z fun z => ?_
       refine oZ (n7 (n4 ?_))
       refine oG fun n107 => W.r ?_
       refine oA 74 (strA t0) ?_
       refine oA 75 (.int .i64 t1) ?_
       refine oX 76 9 .i64 z fun t76 z => ?_
       refine oCa hc 77 z fun t77 h_109 z => ?_
       refine oA 78 (.int .i64 t1) ?_
       refine oI 79 .i64 z fun t79 z => ?_
       refine oW 41 (.agg t77) z fun h_113 z => ?_
       refine oA 5 (.int .i64 t79) ?_
       refine oA 6 (.bool true) ?_
       refine oV [(4, newP h), (5, .int .i64 t79), (6, .bool true)] (n107 (oY ?_))
       obtain ⟨w4_116, e115, z⟩ := oS z
       exact lZ z [.cell 4 41, .tmp 5, .tmp 6] [.agg w4_116, .int .i64 t79, .bool true] (rY e115 (rT (rT res_nil)))
    cases t51 with
    | true =>
     refine oT z fun z => ?_
     refine oZ ?_
     exact gW _ (J77 _ _ z)
    | false =>
     refine oU z fun z => ?_
     refine oG fun n117 => W.r ?_
     refine oB 52 z fun t52 z => ?_
     refine oA 50 (.bool t52) ?_
     refine oV [(0, strA t0), (1, .int .i64 t1), (4, newP h), (12, .int .u8 t12), (50, .bool t52)] (n117 ?_)
     obtain ⟨k119, e119, z⟩ := lS z
     have J119 : ∀ (t50_120 : Bool) (h_121 : AHeap), k119 t50_120 h_121 = some (rR, hR) → Go w0 m0 (Func.ntmps Try.f80) (K74 .normal) [(0, strA t0), (1, .int .i64 t1), (4, newP h), (12, .int .u8 t12), (50, .bool t50_120)] [] h_121 := by
      intro t50_120 h_121 z
      rw [e119] at z
      exact gW _ (J77 _ _ z)
     cases t52 with
     | true =>
      refine oT z fun z => ?_
      refine oZ ?_
      exact gW _ (J119 _ _ z)
     | false =>
      refine oU z fun z => ?_
      refine oG fun n122 => W.r ?_
      refine oB 53 z fun t53 z => ?_
      refine oA 50 (.bool t53) ?_
      refine oV [(0, strA t0), (1, .int .i64 t1), (4, newP h), (12, .int .u8 t12), (50, .bool t53)] (n122 ?_)
      obtain ⟨k124, e124, z⟩ := lS z
      have J124 : ∀ (t50_125 : Bool) (h_126 : AHeap), k124 t50_125 h_126 = some (rR, hR) → Go w0 m0 (Func.ntmps Try.f80) (K74 .normal) [(0, strA t0), (1, .int .i64 t1), (4, newP h), (12, .int .u8 t12), (50, .bool t50_125)] [] h_126 := by
       intro t50_125 h_126 z
       rw [e124] at z
       exact gW _ (J119 _ _ z)
      cases t53 with
      | true =>
       refine oT z fun z => ?_
       refine oZ ?_
       exact gW _ (J124 _ _ z)
      | false =>
       refine oU z fun z => ?_
       refine W.r ?_
       refine oB 54 z fun t54 z => ?_
       refine oA 50 (.bool t54) ?_
       refine oV [(0, strA t0), (1, .int .i64 t1), (4, newP h), (12, .int .u8 t12), (50, .bool t54)] ?_
       exact gW _ (J124 _ _ z)
noncomputable def ref09_class_L2b (h_18 : AHeap) (t14 : Int) (k108 : AHeap → R) (self : Int → AHeap → R) (t15 : Int) (h_111 : AHeap) : R :=
 lett (IntKind.i64.wrap t14) fun (t90 : Int) =>
 lett (decide (t15 ≤ t90)) fun (t91 : Bool) =>
 ifB t91
 (
  obind (idxA 256 1 (newP h_18) t15) fun t95 =>
  obind (stRow h_111 1 [.bool true] t95) fun h_119 =>
  lett (IntKind.i64.wrap (t15 + 1)) fun (t93 : Int) =>
  self t93 h_119)
 (
  k108 h_111)
noncomputable def ref09_class_L2 (h_18 : AHeap) (t14 : Int) (k108 : AHeap → R) : Nat → Int → AHeap → R := iterR (fun _ _ => none) (ref09_class_L2b h_18 t14 k108)
theorem ref09_class_L2_s (h_18 : AHeap) (t14 : Int) (k108 : AHeap → R) (m : Nat) : ref09_class_L2 h_18 t14 k108 (m + 1) = ref09_class_L2b h_18 t14 k108 (ref09_class_L2 h_18 t14 k108 m) := rfl
noncomputable def ref09_class_L1b (call : CallF) (n : Nat) (t0 : Bytes) (h : AHeap) (h_18 : AHeap) (k25 : Int → AHeap → R) (self : Int → Bool → AHeap → R) (t1_65 : Int) (t10 : Bool) (h_66 : AHeap) : R :=
 lett (fun (t37 : Bool) (h_69 : AHeap) =>
  lett (fun (t43 : Bool) (h_72 : AHeap) =>
   ifB t43
   (
    callN (call 89 [strA t0, .int .i64 t1_65] h_72) fun r47 h_78 =>
    obind (extT 0 r47) fun v48 =>
    obind (avInt .u8 v48) fun t48 =>
    obind (extT 1 r47) fun v49 =>
    obind (avInt .i64 v49) fun t49 =>
    obind (extT 2 r47) fun v50 =>
    obind (avBool v50) fun t50 =>
    lett (!t50) fun (t52 : Bool) =>
    ifB t52
    (
     obind (stRow h_78 6 ([.int .i64 0, .int .u64 0, .int .u64 0, .int .u64 0, .int .u64 0, .nsl] : List AV) (newP h)) fun h_90 =>
     obind (ldRow h_90 6 (newP h)) fun w4_93 =>
     some (.ret (.tup [.agg w4_93, .int .i64 t49, .bool false]), h_90))
    (
     lett (decide (t49 < (lenS t0))) fun (t60 : Bool) =>
     lett (fun (t66 : Bool) (h_99 : AHeap) =>
      lett (fun (t1_103 : Int) (t14 : Int) (h_104 : AHeap) =>
       lett (IntKind.i64.wrap t48) fun (t87 : Int) =>
       lett (fun  (h_109 : AHeap) =>
        self t1_103 false h_109) fun k108 =>
       ref09_class_L2 h_18 t14 k108 n t87 h_104) fun k102 =>
      ifB t66
      (
       lett (IntKind.i64.wrap (t49 + 1)) fun (t70 : Int) =>
       callN (call 89 [strA t0, .int .i64 t70] h_99) fun r71 h_124 =>
       obind (extT 0 r71) fun v72 =>
       obind (avInt .u8 v72) fun t72 =>
       obind (extT 1 r71) fun v73 =>
       obind (avInt .i64 v73) fun t73 =>
       obind (extT 2 r71) fun v74 =>
       obind (avBool v74) fun t74 =>
       lett (!t74) fun (t76 : Bool) =>
       ifB t76
       (
        obind (stRow h_124 6 ([.int .i64 0, .int .u64 0, .int .u64 0, .int .u64 0, .int .u64 0, .nsl] : List AV) (newP h)) fun h_136 =>
        obind (ldRow h_136 6 (newP h)) fun w4_139 =>
        some (.ret (.tup [.agg w4_139, .int .i64 t73, .bool false]), h_136))
       (
        lett (decide (t72 < t48)) fun (t82 : Bool) =>
        ifB t82
        (
         lett (IntKind.i64.wrap (t73 - 1)) fun (t85 : Int) =>
         obind (stRow h_124 6 ([.int .i64 0, .int .u64 0, .int .u64 0, .int .u64 0, .int .u64 0, .nsl] : List AV) (newP h)) fun h_145 =>
         obind (ldRow h_145 6 (newP h)) fun w4_148 =>
         some (.ret (.tup [.agg w4_148, .int .i64 t85, .bool false]), h_145))
        (
         k102 t73 t72 h_124)))
      (
       k102 t49 t48 h_99)) fun j66 =>
     ifB t60
     (
      obind (idxS t0 t49) fun t64 =>
      lett ((t64 : Int) == 45) fun (t65 : Bool) =>
      j66 t65 h_78)
     (
      j66 false h_78)))
   (
    k25 t1_65 h_72)) fun j43 =>
  ifB t37
  (
   j43 true h_69)
  (
   obind (idxS t0 t1_65) fun t41 =>
   lett ((t41 : Int) != 93) fun (t42 : Bool) =>
   j43 t42 h_69)) fun j37 =>
 ifB t10
 (
  j37 true h_66)
 (
  lett ((t1_65 : Int) == (lenS t0)) fun (t36 : Bool) =>
  j37 t36 h_66)
noncomputable def ref09_class_L1 (call : CallF) (n : Nat) (t0 : Bytes) (h : AHeap) (h_18 : AHeap) (k25 : Int → AHeap → R) : Nat → Int → Bool → AHeap → R := iterR (fun _ _ _ => none) (ref09_class_L1b call n t0 h h_18 k25)
theorem ref09_class_L1_s (call : CallF) (n : Nat) (t0 : Bytes) (h : AHeap) (h_18 : AHeap) (k25 : Int → AHeap → R) (m : Nat) : ref09_class_L1 call n t0 h h_18 k25 (m + 1) = ref09_class_L1b call n t0 h h_18 k25 (ref09_class_L1 call n t0 h h_18 k25 m) := rfl
noncomputable def ref09_class_L0b (h_2 : AHeap) (t27 : Bool) (h_18 : AHeap) (k31 : AHeap → R) (self : Int → AHeap → R) (t16 : Int) (h_40 : AHeap) : R :=
 lett (decide (t16 < 256)) fun (t97 : Bool) =>
 ifB t97
 (
  obind (idxA 256 1 (newP h_18) t16) fun t101 =>
  obind (ldCell h_40 t101) fun v102 =>
  obind (avBool v102) fun t102 =>
  lett (!((t102 : Bool) == t27)) fun (t104 : Bool) =>
  lett (fun  (h_52 : AHeap) =>
   lett (IntKind.i64.wrap (t16 + 1)) fun (t99 : Int) =>
   self t99 h_52) fun k51 =>
  ifB t104
  (
   obind (quoI .i64 t16 64) fun t106 =>
   obind (idxA 4 1 (AV.ptr (AHeap.next h_2) 1) t106) fun t108 =>
   obind (ldCell h_40 t108) fun v109 =>
   obind (avInt .u64 v109) fun t109 =>
   obind (remI .i64 t16 64) fun t111 =>
   obind (shlI .u64 1 t111) fun t112 =>
   lett (orI .u64 t109 t112) fun (t113 : Int) =>
   obind (idxA 4 1 (AV.ptr (AHeap.next h_2) 1) t106) fun t115 =>
   obind (stRow h_40 1 [.int .u64 t113] t115) fun h_62 =>
   k51 h_62)
  (
   k51 h_40))
 (
  k31 h_40)
noncomputable def ref09_class_L0 (h_2 : AHeap) (t27 : Bool) (h_18 : AHeap) (k31 : AHeap → R) : Nat → Int → AHeap → R := iterR (fun _ _ => none) (ref09_class_L0b h_2 t27 h_18 k31)
theorem ref09_class_L0_s (h_2 : AHeap) (t27 : Bool) (h_18 : AHeap) (k31 : AHeap → R) (m : Nat) : ref09_class_L0 h_2 t27 h_18 k31 (m + 1) = ref09_class_L0b h_2 t27 h_18 k31 (ref09_class_L0 h_2 t27 h_18 k31 m) := rfl
noncomputable def ref09_class (call : CallF) (n : Nat) (t0 : Bytes) (t1 : Int) (h : AHeap) : R :=
 lett (newH h 41 [.int .i64 0, .int .u64 0, .int .u64 0, .int .u64 0, .int .u64 0, .nsl]) fun h_2 =>
 lett (newH h_2 41 [.int .i64 0, .int .u64 0, .int .u64 0, .int .u64 0, .int .u64 0, .nsl]) fun h_5 =>
 obind (stRow h_5 6 ([.int .i64 2, .int .u64 0, .int .u64 0, .int .u64 0, .int .u64 0, .nsl] : List AV) (newP h_2)) fun h_7 =>
 lett (decide (t1 < (lenS t0))) fun (t21 : Bool) =>
 lett (fun (t27 : Bool) (h_11 : AHeap) =>
  lett (fun (t1_17 : Int) (h_18 : AHeap) =>
   lett (newH h_18 109 [.bool false, .bool false, .bool false, .bool false, .bool false, .bool false, .bool false, .bool false, .bool false, .bool false, .bool false, .bool false, .bool false, .bool false, .bool false, .bool false, .bool false, .bool false, .bool false, .bool false, .bool false, .bool false, .bool false, .bool false, .bool false, .bool false, .bool false, .bool false, .bool false, .bool false, .bool false, .bool false, .bool false, .bool false, .bool false, .bool false, .bool false, .bool false, .bool false, .bool false, .bool false, .bool false, .bool false, .bool false, .bool false, .bool false, .bool false, .bool false, .bool false, .bool false, .bool false, .bool false, .bool false, .bool false, .bool false, .bool false, .bool false, .bool false, .bool false, .bool false, .bool false, .bool false, .bool false, .bool false, .bool false, .bool false, .bool false, .bool false, .bool false, .bool false, .bool false, .bool false, .bool false, .bool false, .bool false, .bool false, .bool false, .bool false, .bool false, .bool false, .bool false, .bool false, .bool false, .bool false, .bool false, .bool false, .bool false, .bool false, .bool false, .bool false, .bool false, .bool false, .bool false, .bool false, .bool false, .bool false, .bool false, .bool false, .bool false, .bool false, .bool false, .bool false, .bool false, .bool false, .bool false, .bool false, .bool false, .bool false, .bool false, .bool false, .bool false, .bool false, .bool false, .bool false, .bool false, .bool false, .bool false, .bool false, .bool false, .bool false, .bool false, .bool false, .bool false, .bool false, .bool false, .bool false, .bool false, .bool false, .bool false, .bool false, .bool false, .bool false, .bool false, .bool false, .bool false, .bool false, .bool false, .bool false, .bool false, .bool false, .bool false, .bool false, .bool false, .bool false, .bool false, .bool false, .bool false, .bool false, .bool false, .bool false, .bool false, .bool false, .bool false, .bool false, .bool false, .bool false, .bool false, .bool false, .bool false, .bool false, .bool false, .bool false, .bool false, .bool false, .bool false, .bool false, .bool false, .bool false, .bool false, .bool false, .bool false, .bool false, .bool false, .bool false, .bool false, .bool false, .bool false, .bool false, .bool false, .bool false, .bool false, .bool false, .bool false, .bool false, .bool false, .bool false, .bool false, .bool false, .bool false, .bool false, .bool false, .bool false, .bool false, .bool false, .bool false, .bool false, .bool false, .bool false, .bool false, .bool false, .bool false, .bool false, .bool false, .bool false, .bool false, .bool false, .bool false, .bool false, .bool false, .bool false, .bool false, .bool false, .bool false, .bool false, .bool false, .bool false, .bool false, .bool false, .bool false, .bool false, .bool false, .bool false, .bool false, .bool false, .bool false, .bool false, .bool false, .bool false, .bool false, .bool false, .bool false, .bool false, .bool false, .bool false, .bool false, .bool false, .bool false, .bool false, .bool false, .bool false, .bool false, .bool false, .bool false, .bool false, .bool false, .bool false, .bool false, .bool false, .bool false, .bool false, .bool false, .bool false, .bool false, .bool false, .bool false, .bool false]) fun h_20 =>
   lett (fun (t1_26 : Int) (h_27 : AHeap) =>
    lett (fun  (h_32 : AHeap) =>
     obind (ldRow h_32 6 (newP h_2)) fun t116 =>
     lett (IntKind.i64.wrap (t1_26 + 1)) fun (t118 : Int) =>
     obind (stRow h_32 6 t116 (newP h)) fun h_36 =>
     obind (ldRow h_36 6 (newP h)) fun w4 =>
     some (.ret (.tup [.agg w4, .int .i64 t118, .bool true]), h_36)) fun k31 =>
    ref09_class_L0 h_2 t27 h_18 k31 n 0 h_27) fun k25 =>
   ref09_class_L1 call n t0 h h_18 k25 n t1_17 true h_20) fun k16 =>
  ifB t27
  (
   lett (IntKind.i64.wrap (t1 + 1)) fun (t30 : Int) =>
   k16 t30 h_11)
  (
   k16 t1 h_11)) fun j27 =>
 ifB t21
 (
  obind (idxS t0 t1) fun t25 =>
  lett ((t25 : Int) == 94) fun (t26 : Bool) =>
  j27 t26 h_7)
 (
  j27 false h_7)
theorem ref09_class_ok {call : CallF} (hc : SaysAll Pg call) {n : Nat} {t0 : Bytes} {t1 : Int} {h : AHeap} {rR : ARes} {hR : AHeap} (z : ref09_class call n t0 t1 h = some (rR, hR)) : Says Pg 86 [strA t0, .int .i64 t1] h rR hR := by
 unfold ref09_class at z
 refine sO Try.func86 fun w0 m0 => ?_
 refine wW [(0, strA t0), (1, .int .i64 t1)] ?_
 refine oG fun n1 => W.r ?_
 refine oN 4 z fun h_2 z => ?_
 refine oA 5 (.int .i64 0) ?_
 refine oA 6 (.bool false) ?_
 refine oV [(0, strA t0), (1, .int .i64 t1), (4, newP h)] (n1 ?_)
 refine oG fun n4 => W.r ?_
 refine oA 17 (.agg ([.int .i64 2, .int .u64 0, .int .u64 0, .int .u64 0, .int .u64 0, .nsl] : List AV)) ?_
 refine oN 7 z fun h_5 z => ?_
 refine oW 41 (.agg ([.int .i64 2, .int .u64 0, .int .u64 0, .int .u64 0, .int .u64 0, .nsl] : List AV)) z fun h_7 z => ?_
 refine oV [(0, strA t0), (1, .int .i64 t1), (4, newP h), (7, newP h_2)] (n4 ?_)
 refine W.s (fun K9 n9 _ _ _ => ?_)
 refine W.r ?_
 refine oA 18 (.int .i64 t1) ?_
 refine oA 19 (strA t0) ?_
 refine oA 20 (.int .i64 (lenS t0)) ?_
 refine oB 21 z fun t21 z => ?_
 refine oA 22 (.bool t21) ?_
 obtain ⟨j27, e12, z⟩ := lS z
 have J13 : ∀ (t27 : Bool) (h_11 : AHeap), j27 t27 h_11 = some (rR, hR) → WL Pg w0 m0 (Func.ntmps Try.f86) (Code.ops (Code.p1 (Code.p2 (Code.p2 (codeOf Try.f86))))) 10 K9 [(0, strA t0), (1, .int .i64 t1), (4, newP h), (7, newP h_2), (27, .bool t27)] [] h_11 := by
  intro t27 h_11 z
  rw [e12] at z
  refine oA 8 (.bool t27) ?_
  refine oV [(0, strA t0), (1, .int .i64 t1), (4, newP h), (7, newP h_2), (8, .bool t27)] (n9 ?_)
  refine W.s (fun K14 n14 _ _ _ => ?_)
  refine oG fun n15 => W.r ?_
  refine oA 28 (.bool t27) ?_
  refine oV [(0, strA t0), (1, .int .i64 t1), (4, newP h), (7, newP h_2), (8, .bool t27), (28, .bool t27)] (n15 ?_)
  obtain ⟨k16, e16, z⟩ := lS z
  have J16 : ∀ (t1_17 : Int) (h_18 : AHeap), k16 t1_17 h_18 = some (rR, hR) → Go w0 m0 (Func.ntmps Try.f86) (K14 .normal) [(0, strA t0), (1, .int .i64 t1_17), (4, newP h), (7, newP h_2), (8, .bool t27)] [] h_18 := by
   intro t1_17 h_18 z
   rw [e16] at z
   refine n14 ?_
   refine oG fun n19 => W.r ?_
   refine oN 9 z fun h_20 z => ?_
   refine oV [(0, strA t0), (1, .int .i64 t1_17), (4, newP h), (7, newP h_2), (8, .bool t27), (9, newP h_18)] (n19 ?_)
   refine oG fun n22 => W.r ?_
   refine oA 10 (.bool true) ?_
   refine oV [(0, strA t0), (1, .int .i64 t1_17), (4, newP h), (7, newP h_2), (8, .bool t27), (9, newP h_18), (10, .bool true)] (n22 ?_)
   refine W.s (fun K23 n23 _ q23 _ => ?_)
   obtain ⟨k25, e25, z⟩ := lS z
   have J25 : ∀ (t1_26 : Int) (h_27 : AHeap), k25 t1_26 h_27 = some (rR, hR) → Go w0 m0 (Func.ntmps Try.f86) (K23 .normal) [(1, .int .i64 t1_26), (4, newP h), (7, newP h_2), (8, .bool t27), (9, newP h_18)] [] h_27 := by
    intro t1_26 h_27 z
    rw [e25] at z
    refine n23 ?_
    refine W.s (fun K28 n28 _ _ _ => ?_)
    refine oG fun n29 => W.r ?_
    refine oA 16 (.int .i64 0) ?_
    refine oV [(1, .int .i64 t1_26), (4, newP h), (7, newP h_2), (8, .bool t27), (9, newP h_18), (16, .int .i64 0)] (n29 ?_)
    obtain ⟨k31, e31, z⟩ := lS z
    have J31 : ∀  (h_32 : AHeap), k31 h_32 = some (rR, hR) → Go w0 m0 (Func.ntmps Try.f86) (K28 .normal) [(1, .int .i64 t1_26), (4, newP h), (7, newP h_2)] [] h_32 := by
     intro  h_32 z
     rw [e31] at z
     refine n28 ?_
     refine oG fun n33 => W.r ?_
     refine oR 116 41 z fun t116 z => ?_
     refine oA 117 (.int .i64 t1_26) ?_
     refine oI 118 .i64 z fun t118 z => ?_
     refine oW 41 (.agg t116) z fun h_36 z => ?_
     refine oA 5 (.int .i64 t118) ?_
     refine oA 6 (.bool true) ?_
     refine oV [(4, newP h), (5, .int .i64 t118), (6, .bool true)] (n33 (oY ?_))
     obtain ⟨w4, e38, z⟩ := oS z
     exact lZ z [.cell 4 41, .tmp 5, .tmp 6] [.agg w4, .int .i64 t118, .bool true] (rY e38 (rT (rT res_nil)))
    refine W.blockK (by kernel_rfl) (fun K30 n30 s30 o30 q30 p30 => ?_)
    refine W.loopK (by kernel_rfl) (fun I39 K39 b39 n39 e39 q39 p39 => ?_)
    have L39 : ∀ (m : Nat) (t16 : Int) (h_40 : AHeap), ref09_class_L0 h_2 t27 h_18 k31 m t16 h_40 = some (rR, hR) → Go w0 m0 (Func.ntmps Try.f86) I39 [(1, .int .i64 t1_26), (4, newP h), (7, newP h_2), (8, .bool t27), (9, newP h_18), (16, .int .i64 t16)] [] h_40 := by
     intro m
     induction m with
     | zero => intro t16 h_40 z; cases z
     | succ m ih39 =>
      intro t16 h_40 z
      rw [ref09_class_L0_s] at z; unfold ref09_class_L0b at z
      refine b39 ?_
      refine W.s (fun _ n41 e41 _ _ => ?_)
      refine oG fun n42 => W.r ?_
      refine oA 96 (.int .i64 t16) ?_
      refine oB 97 z fun t97 z => ?_
      refine oV [(1, .int .i64 t1_26), (4, newP h), (7, newP h_2), (8, .bool t27), (9, newP h_18), (16, .int .i64 t16), (97, .bool t97)] (n42 ?_)
      cases t97 with
      | true =>
       refine oT z fun z => ?_
       refine oZ (n41 ?_)
       refine oG fun n44 => ?_
       refine W.blockK (by kernel_rfl) (fun K45 n45 s45 o45 q45 p45 => ?_)
       refine oG fun n46 => W.r ?_
       refine oA 100 (.int .i64 t16) ?_
       refine oQ 101 109 4 .i64 z fun t101 z => ?_
       refine oLb 102 4 z fun t102 z => ?_
       refine oA 103 (.bool t27) ?_
       refine oB 104 z fun t104 z => ?_
       refine oV [(1, .int .i64 t1_26), (4, newP h), (7, newP h_2), (8, .bool t27), (9, newP h_18), (16, .int .i64 t16), (104, .bool t104)] (n46 ?_)
       obtain ⟨k51, e51, z⟩ := lS z
       have J51 : ∀  (h_52 : AHeap), k51 h_52 = some (rR, hR) → Go w0 m0 (Func.ntmps Try.f86) (K45 .normal) [(1, .int .i64 t1_26), (4, newP h), (7, newP h_2), (8, .bool t27), (9, newP h_18), (16, .int .i64 t16)] [] h_52 := by
        intro  h_52 z
        rw [e51] at z
        refine n45 (n44 (W.r ?_))
        refine oA 98 (.int .i64 t16) ?_
        refine oI 99 .i64 z fun t99 z => ?_
        refine oA 16 (.int .i64 t99) ?_
        refine oV [(1, .int .i64 t1_26), (4, newP h), (7, newP h_2), (8, .bool t27), (9, newP h_18), (16, .int .i64 t99)] (n39 ?_)
        exact gW _ (ih39 _ _ z)
       cases t104 with
       | true =>
        refine oT z fun z => ?_
        refine W.draw (by kernel_rfl) (hc.ok w0) (plan := [0, 1, 2, 3, 4, 5, 6, 7, 8, 9, 10, 11]) (by kernel_rfl) (by kernel_rfl) (by kernel_rfl) ?_
        refine WD.a 0 (some 105) (.int .i64 t16) h_40 ?_
        obtain ⟨t106, e54, z⟩ := oS z
        refine WD.b 0 (some 106) (.int .i64 t106) h_40 (quo_int (P := Pg) (h := h_40) (t := 3) (lit := true) e54) ?_
        refine WD.a 0 (some 107) (AV.ptr (AHeap.next h_2) 1) h_40 ?_
        obtain ⟨t108, e55, z⟩ := oS z
        refine WD.b 0 (some 108) t108 h_40 (index_arr (P := Pg) (h := h_40) (t := 38) (e' := 36) (k := .i64) (by kernel_rfl) (by kernel_rfl) (by kernel_rfl) e55) ?_
        replace z := oS z; obtain ⟨v109, e56, z⟩ := z
        replace z := oS z; obtain ⟨t109, c57, z⟩ := z
        have c57 := avInt_some c57
        subst c57
        refine WD.b 1 (some 109) (.int .u64 t109) h_40 (load_cell (P := Pg) (h := h_40) (t := 36) (by kernel_rfl) e56) ?_
        refine WD.a 0 (some 110) (.int .i64 t16) h_40 ?_
        obtain ⟨t111, e58, z⟩ := oS z
        refine WD.b 0 (some 111) (.int .i64 t111) h_40 (rem_int (P := Pg) (h := h_40) (t := 3) (lit := true) e58) ?_
        obtain ⟨t112, e59, z⟩ := oS z
        refine WD.b 0 (some 112) (.int .u64 t112) h_40 (shl_int (P := Pg) (h := h_40) (t := 36) (k' := .i64) (lit := true) e59) ?_
        obtain ⟨t113, e60, z⟩ := lS z
        refine WD.val (d := (some 113)) (v := .int .u64 t113) (h' := h_40) (by kernel_rfl) (by kernel_rfl) (val_of (AV.int .u64) e60 (by kernel_rfl)) (k := 0) (by kernel_rfl) (fun e => absurd e (by decide)) (by decide) ?_
        refine WD.a 0 (some 114) (AV.ptr (AHeap.next h_2) 1) h_40 ?_
        obtain ⟨t115, e61, z⟩ := oS z
        refine WD.b 0 (some 115) t115 h_40 (index_arr (P := Pg) (h := h_40) (t := 38) (e' := 36) (k := .i64) (by kernel_rfl) (by kernel_rfl) (by kernel_rfl) e61) ?_
        obtain ⟨h_62, e63, z⟩ := oS z
        refine WD.eff (h' := h_62) (by kernel_rfl) (by kernel_rfl) (Eq.trans (by kernel_rfl) (store_row (P := Pg) (h := h_40) (t := 36) (v := (.int .u64 t113)) (by kernel_rfl) (by kernel_rfl) e63)) (k := 2) (by kernel_rfl) (fun _ => (by kernel_rfl)) (by decide) ?_
        refine WD.nil ?_
        refine gW [(1, .int .i64 t1_26), (4, newP h), (7, newP h_2), (8, .bool t27), (9, newP h_18), (16, .int .i64 t16)] ?_
        exact gW _ (J51 _ z)
       | false =>
        refine oU z fun z => ?_
        refine oZ ?_
        exact gW _ (J51 _ z)
      | false =>
       refine oU z fun z => ?_
       refine W.exit (by kernel_rfl) ?_
       refine e41 (e39 ?_)
       refine s30 (by kernel_rfl) ?_
       exact gW _ (J31 _ z)
    exact gW _ (L39 _ _ _ z)
   refine W.blockK (by kernel_rfl) (fun K24 n24 s24 o24 q24 p24 => ?_)
   refine W.loopK (by kernel_rfl) (fun I64 K64 b64 n64 e64 q64 p64 => ?_)
   have L64 : ∀ (m : Nat) (t1_65 : Int) (t10 : Bool) (h_66 : AHeap), ref09_class_L1 call n t0 h h_18 k25 m t1_65 t10 h_66 = some (rR, hR) → Go w0 m0 (Func.ntmps Try.f86) I64 [(0, strA t0), (1, .int .i64 t1_65), (4, newP h), (7, newP h_2), (8, .bool t27), (9, newP h_18), (10, .bool t10)] [] h_66 := by
    intro m
    induction m with
    | zero => intro t1_65 t10 h_66 z; cases z
    | succ m ih64 =>
     intro t1_65 t10 h_66 z
     rw [ref09_class_L1_s] at z; unfold ref09_class_L1b at z
     refine b64 ?_
     refine W.s (fun _ n67 e67 _ _ => ?_)
     refine W.s (fun K68 n68 _ _ _ => ?_)
     refine W.r ?_
     refine oA 31 (.bool t10) ?_
     refine oA 32 (.bool t10) ?_
     obtain ⟨j37, e70, z⟩ := lS z
     have J71 : ∀ (t37 : Bool) (h_69 : AHeap), j37 t37 h_69 = some (rR, hR) → WL Pg w0 m0 (Func.ntmps Try.f86) (Code.ops (Code.p1 (Code.p1 (Code.p1 (Code.p1 (Code.p1 (Code.p2 (Code.p2 (Code.p2 (Code.p2 (Code.p2 (Code.p2 (codeOf Try.f86))))))))))))) 7 K68 [(0, strA t0), (1, .int .i64 t1_65), (4, newP h), (7, newP h_2), (8, .bool t27), (9, newP h_18), (37, .bool t37)] [] h_69 := by
      intro t37 h_69 z
      rw [e70] at z
      refine oA 38 (.bool t37) ?_
      obtain ⟨j43, e73, z⟩ := lS z
      have J74 : ∀ (t43 : Bool) (h_72 : AHeap), j43 t43 h_72 = some (rR, hR) → WL Pg w0 m0 (Func.ntmps Try.f86) (Code.ops (Code.p1 (Code.p1 (Code.p1 (Code.p1 (Code.p1 (Code.p2 (Code.p2 (Code.p2 (Code.p2 (Code.p2 (Code.p2 (codeOf Try.f86))))))))))))) 13 K68 [(0, strA t0), (1, .int .i64 t1_65), (4, newP h), (7, newP h_2), (8, .bool t27), (9, newP h_18), (43, .bool t43)] [] h_72 := by
       intro t43 h_72 z
       rw [e73] at z
       refine oV [(0, strA t0), (1, .int .i64 t1_65), (4, newP h), (7, newP h_2), (8, .bool t27), (9, newP h_18), (43, .bool t43)] (n68 ?_)
       cases t43 with
       | true =>
        refine oT z fun z => ?_
        refine oZ (n67 ?_)
        refine W.blockK (by kernel_rfl) (fun K75 n75 s75 o75 q75 p75 => ?_)
        refine oG fun n76 => W.r ?_
        refine oA 10 (.bool false) ?_
        refine oV [(0, strA t0), (1, .int .i64 t1_65), (4, newP h), (7, newP h_2), (8, .bool t27), (9, newP h_18), (10, .bool false)] (n76 ?_)
        refine oG fun n77 => W.r ?_
        refine oA 45 (strA t0) ?_
        refine oA 46 (.int .i64 t1_65) ?_
        refine oC hc (some 47) z fun r47 h_78 z => ?_
        refine oA 44 r47 ?_
        refine oEi 48 z fun t48 z => ?_
        refine oEi 49 z fun t49 z => ?_
        refine oEb 50 z fun t50 z => ?_
        refine oA 11 (.int .u8 t48) ?_
        refine oA 12 (.int .i64 t49) ?_
        refine oA 13 (.bool t50) ?_
        refine oV [(0, strA t0), (4, newP h), (7, newP h_2), (8, .bool t27), (9, newP h_18), (10, .bool false), (11, .int .u8 t48), (12, .int .i64 t49), (13, .bool t50)] (n77 ?_)
        refine oH fun n86 q86 => ?_
        refine oG fun n87 => W.r ?_
        refine oA 51 (.bool t50) ?_
        refine oB 52 z fun t52 z => ?_
        refine oV [(0, strA t0), (4, newP h), (7, newP h_2), (8, .bool t27), (9, newP h_18), (10, .bool false), (11, .int .u8 t48), (12, .int .i64 t49), (52, .bool t52)] (n87 ?_)
        cases t52 with
        | true =>
         refine oT z fun z => ?_
         refine oG fun n89 => W.r ?_
         refine oA 53 (.agg ([.int .i64 0, .int .u64 0, .int .u64 0, .int .u64 0, .int .u64 0, .nsl] : List AV)) ?_
         refine oA 54 (.int .i64 t49) ?_
         refine oW 41 (.agg ([.int .i64 0, .int .u64 0, .int .u64 0, .int .u64 0, .int .u64 0, .nsl] : List AV)) z fun h_90 z => ?_
         refine oA 5 (.int .i64 t49) ?_
         refine oA 6 (.bool false) ?_
         refine oV [(4, newP h), (5, .int .i64 t49), (6, .bool false)] (n89 (oY (q86 (q75 (q64 (q24 (q23 ?_)))))))
         obtain ⟨w4_93, e92, z⟩ := oS z
         exact lZ z [.cell 4 41, .tmp 5, .tmp 6] [.agg w4_93, .int .i64 t49, .bool false] (rY e92 (rT (rT res_nil)))
        | false =>
         refine oU z fun z => ?_
         refine oZ (n86 ?_)
         refine oG fun n94 => W.r ?_
         refine oA 55 (.int .i64 t49) ?_
         refine oA 1 (.int .i64 t49) ?_
         refine oV [(0, strA t0), (1, .int .i64 t49), (4, newP h), (7, newP h_2), (8, .bool t27), (9, newP h_18), (10, .bool false), (11, .int .u8 t48)] (n94 ?_)
         refine oG fun n95 => W.r ?_
         refine oA 56 (.int .u8 t48) ?_
         refine oA 14 (.int .u8 t48) ?_
         refine oV [(0, strA t0), (1, .int .i64 t49), (4, newP h), (7, newP h_2), (8, .bool t27), (9, newP h_18), (10, .bool false), (11, .int .u8 t48), (14, .int .u8 t48)] (n95 ?_)
         refine W.s (fun K96 n96 _ q96 _ => ?_)
         refine W.s (fun K97 n97 _ _ _ => ?_)
         refine W.r ?_
         refine oA 57 (.int .i64 t49) ?_
         refine oA 58 (strA t0) ?_
         refine oA 59 (.int .i64 (lenS t0)) ?_
         refine oB 60 z fun t60 z => ?_
         refine oA 61 (.bool t60) ?_
         obtain ⟨j66, e100, z⟩ := lS z
         have J101 : ∀ (t66 : Bool) (h_99 : AHeap), j66 t66 h_99 = some (rR, hR) → WL Pg w0 m0 (Func.ntmps Try.f86) (Code.ops (Code.p1 (Code.p1 (Code.p2 (Code.p2 (Code.p2 (Code.p2 (Code.p2 (Code.p1 (Code.p2 (Code.p1 (Code.p1 (Code.p1 (Code.p2 (Code.p2 (Code.p2 (Code.p2 (Code.p2 (Code.p2 (codeOf Try.f86)))))))))))))))))))) 10 K97 [(0, strA t0), (1, .int .i64 t49), (4, newP h), (7, newP h_2), (8, .bool t27), (9, newP h_18), (10, .bool false), (11, .int .u8 t48), (14, .int .u8 t48), (66, .bool t66)] [] h_99 := by
          intro t66 h_99 z
          rw [e100] at z
          refine oV [(0, strA t0), (1, .int .i64 t49), (4, newP h), (7, newP h_2), (8, .bool t27), (9, newP h_18), (10, .bool false), (11, .int .u8 t48), (14, .int .u8 t48), (66, .bool t66)] (n97 ?_)
          obtain ⟨k102, e102, z⟩ := lS z
          have J102 : ∀ (t1_103 : Int) (t14 : Int) (h_104 : AHeap), k102 t1_103 t14 h_104 = some (rR, hR) → Go w0 m0 (Func.ntmps Try.f86) (K96 .normal) [(0, strA t0), (1, .int .i64 t1_103), (4, newP h), (7, newP h_2), (8, .bool t27), (9, newP h_18), (10, .bool false), (11, .int .u8 t48), (14, .int .u8 t14)] [] h_104 := by
           intro t1_103 t14 h_104 z
           rw [e102] at z
           refine n96 ?_
           refine oG fun n105 => W.r ?_
           refine oA 86 (.int .u8 t48) ?_
           refine oI 87 .i64 z fun t87 z => ?_
           refine oA 15 (.int .i64 t87) ?_
           refine oV [(0, strA t0), (1, .int .i64 t1_103), (4, newP h), (7, newP h_2), (8, .bool t27), (9, newP h_18), (10, .bool false), (14, .int .u8 t14), (15, .int .i64 t87)] (n105 ?_)
           obtain ⟨k108, e108, z⟩ := lS z
           have J108 : ∀  (h_109 : AHeap), k108 h_109 = some (rR, hR) → Go w0 m0 (Func.ntmps Try.f86) (K75 .normal) [(0, strA t0), (1, .int .i64 t1_103), (4, newP h), (7, newP h_2), (8, .bool t27), (9, newP h_18), (10, .bool false)] [] h_109 := by
            intro  h_109 z
            rw [e108] at z
            refine n75 (n64 ?_)
            exact gW _ (ih64 _ _ _ z)
           refine W.blockK (by kernel_rfl) (fun K107 n107 s107 o107 q107 p107 => ?_)
           refine W.loopK (by kernel_rfl) (fun I110 K110 b110 n110 e110 q110 p110 => ?_)
           have L110 : ∀ (m : Nat) (t15 : Int) (h_111 : AHeap), ref09_class_L2 h_18 t14 k108 m t15 h_111 = some (rR, hR) → Go w0 m0 (Func.ntmps Try.f86) I110 [(0, strA t0), (1, .int .i64 t1_103), (4, newP h), (7, newP h_2), (8, .bool t27), (9, newP h_18), (10, .bool false), (14, .int .u8 t14), (15, .int .i64 t15)] [] h_111 := by
            intro m
            induction m with
            | zero => intro t15 h_111 z; cases z
            | succ m ih110 =>
             intro t15 h_111 z
             rw [ref09_class_L2_s] at z; unfold ref09_class_L2b at z
             refine b110 ?_
             refine W.s (fun _ n112 e112 _ _ => ?_)
             refine oG fun n113 => W.r ?_
             refine oA 88 (.int .i64 t15) ?_
             refine oA 89 (.int .u8 t14) ?_
             refine oI 90 .i64 z fun t90 z => ?_
             refine oB 91 z fun t91 z => ?_
             refine oV [(0, strA t0), (1, .int .i64 t1_103), (4, newP h), (7, newP h_2), (8, .bool t27), (9, newP h_18), (10, .bool false), (14, .int .u8 t14), (15, .int .i64 t15), (91, .bool t91)] (n113 ?_)
             cases t91 with
             | true =>
              refine oT z fun z => ?_
              refine oZ (n112 ?_)
              refine oG fun n116 => ?_
              refine W.blockK (by kernel_rfl) (fun K117 n117 s117 o117 q117 p117 => ?_)
              refine W.r ?_
              refine oA 94 (.int .i64 t15) ?_
              refine oQ 95 109 4 .i64 z fun t95 z => ?_
              refine oW 4 (.bool true) z fun h_119 z => ?_
              refine oV [(0, strA t0), (1, .int .i64 t1_103), (4, newP h), (7, newP h_2), (8, .bool t27), (9, newP h_18), (10, .bool false), (14, .int .u8 t14), (15, .int .i64 t15)] (n117 (n116 (W.r ?_)))
              refine oA 92 (.int .i64 t15) ?_
              refine oI 93 .i64 z fun t93 z => ?_
              refine oA 15 (.int .i64 t93) ?_
              refine oV [(0, strA t0), (1, .int .i64 t1_103), (4, newP h), (7, newP h_2), (8, .bool t27), (9, newP h_18), (10, .bool false), (14, .int .u8 t14), (15, .int .i64 t93)] (n110 ?_)
              exact gW _ (ih110 _ _ z)
             | false =>
              refine oU z fun z => ?_
              refine W.exit (by kernel_rfl) ?_
              refine e112 (e110 ?_)
              refine s107 (by kernel_rfl) ?_
              exact gW _ (J108 _ z)
           exact gW _ (L110 _ _ _ z)
          cases t66 with
          | true =>
           refine oT z fun z => ?_
           refine oG fun n122 => W.r ?_
           refine oA 68 (strA t0) ?_
           refine oA 69 (.int .i64 t49) ?_
           refine oI 70 .i64 z fun t70 z => ?_
           refine oC hc (some 71) z fun r71 h_124 z => ?_
           refine oA 67 r71 ?_
           refine oEi 72 z fun t72 z => ?_
           refine oEi 73 z fun t73 z => ?_
           refine oEb 74 z fun t74 z => ?_
           refine oA 14 (.int .u8 t72) ?_
           refine oA 12 (.int .i64 t73) ?_
           refine oA 13 (.bool t74) ?_
           refine oV [(0, strA t0), (4, newP h), (7, newP h_2), (8, .bool t27), (9, newP h_18), (10, .bool false), (11, .int .u8 t48), (12, .int .i64 t73), (13, .bool t74), (14, .int .u8 t72)] (n122 ?_)
           refine oH fun n132 q132 => ?_
           refine oG fun n133 => W.r ?_
           refine oA 75 (.bool t74) ?_
           refine oB 76 z fun t76 z => ?_
           refine oV [(0, strA t0), (4, newP h), (7, newP h_2), (8, .bool t27), (9, newP h_18), (10, .bool false), (11, .int .u8 t48), (12, .int .i64 t73), (14, .int .u8 t72), (76, .bool t76)] (n133 ?_)
           cases t76 with
           | true =>
            refine oT z fun z => ?_
            refine oG fun n135 => W.r ?_
            refine oA 77 (.agg ([.int .i64 0, .int .u64 0, .int .u64 0, .int .u64 0, .int .u64 0, .nsl] : List AV)) ?_
            refine oA 78 (.int .i64 t73) ?_
            refine oW 41 (.agg ([.int .i64 0, .int .u64 0, .int .u64 0, .int .u64 0, .int .u64 0, .nsl] : List AV)) z fun h_136 z => ?_
            refine oA 5 (.int .i64 t73) ?_
            refine oA 6 (.bool false) ?_
            refine oV [(4, newP h), (5, .int .i64 t73), (6, .bool false)] (n135 (oY (q132 (q96 (q75 (q64 (q24 (q23 ?_))))))))
            obtain ⟨w4_139, e138, z⟩ := oS z
            exact lZ z [.cell 4 41, .tmp 5, .tmp 6] [.agg w4_139, .int .i64 t73, .bool false] (rY e138 (rT (rT res_nil)))
           | false =>
            refine oU z fun z => ?_
            refine oZ (n132 ?_)
            refine oG fun n140 => W.r ?_
            refine oA 79 (.int .i64 t73) ?_
            refine oA 1 (.int .i64 t73) ?_
            refine oV [(0, strA t0), (1, .int .i64 t73), (4, newP h), (7, newP h_2), (8, .bool t27), (9, newP h_18), (10, .bool false), (11, .int .u8 t48), (14, .int .u8 t72)] (n140 ?_)
            refine oG fun n141 => W.r ?_
            refine oA 80 (.int .u8 t72) ?_
            refine oA 81 (.int .u8 t48) ?_
            refine oB 82 z fun t82 z => ?_
            refine oV [(0, strA t0), (1, .int .i64 t73), (4, newP h), (7, newP h_2), (8, .bool t27), (9, newP h_18), (10, .bool false), (11, .int .u8 t48), (14, .int .u8 t72), (82, .bool t82)] (n141 ?_)
            cases t82 with
            | true =>
             refine oT z fun z => ?_
             refine oG fun n143 => W.r ?_
             refine oA 83 (.agg ([.int .i64 0, .int .u64 0, .int .u64 0, .int .u64 0, .int .u64 0, .nsl] : List AV)) ?_
             refine oA 84 (.int .i64 t73) ?_
             refine oI 85 .i64 z fun t85 z => ?_
             refine oW 41 (.agg ([.int .i64 0, .int .u64 0, .int .u64 0, .int .u64 0, .int .u64 0, .nsl] : List AV)) z fun h_145 z => ?_
             refine oA 5 (.int .i64 t85) ?_
             refine oA 6 (.bool false) ?_
             refine oV [(4, newP h), (5, .int .i64 t85), (6, .bool false)] (n143 (oY (q96 (q75 (q64 (q24 (q23 ?_)))))))
             obtain ⟨w4_148, e147, z⟩ := oS z
             exact lZ z [.cell 4 41, .tmp 5, .tmp 6] [.agg w4_148, .int .i64 t85, .bool false] (rY e147 (rT (rT res_nil)))
            | false =>
             refine oU z fun z => ?_
             refine oZ ?_
             exact gW _ (J102 _ _ _ z)
          | false =>
           refine oU z fun z => ?_
           refine oZ ?_
           exact gW _ (J102 _ _ _ z)
         cases t60 with
         | true =>
          replace z := ifB_t z
          refine oA 62 (strA t0) ?_
          refine oA 63 (.int .i64 t49) ?_
          refine oX 64 9 .i64 z fun t64 z => ?_
          refine oB 65 z fun t65 z => ?_
          refine oA 66 (.bool t65) ?_
          exact lW _ (J101 _ _ z)
         | false =>
          replace z := ifB_f z
          refine WL.o (some 62) ?_
          refine WL.o (some 63) ?_
          refine WL.o (some 64) ?_
          refine WL.o (some 65) ?_
          refine oA 66 (.bool false) ?_
          exact lW _ (J101 _ _ z)
       | false =>
        refine oU z fun z => ?_
        refine W.exit (by kernel_rfl) ?_
        refine e67 (e64 ?_)
        refine s24 (by kernel_rfl) ?_
        exact gW _ (J25 _ _ z)
      cases t37 with
      | true =>
       replace z := ifB_t z
       refine WL.o (some 39) ?_
       refine WL.o (some 40) ?_
       refine WL.o (some 41) ?_
       refine WL.o (some 42) ?_
       refine oA 43 (.bool true) ?_
       exact lW _ (J74 _ _ z)
      | false =>
       replace z := ifB_f z
       refine oA 39 (strA t0) ?_
       refine oA 40 (.int .i64 t1_65) ?_
       refine oX 41 9 .i64 z fun t41 z => ?_
       refine oB 42 z fun t42 z => ?_
       refine oA 43 (.bool t42) ?_
       exact lW _ (J74 _ _ z)
     cases t10 with
     | true =>
      replace z := ifB_t z
      refine WL.o (some 33) ?_
      refine WL.o (some 34) ?_
      refine WL.o (some 35) ?_
      refine WL.o (some 36) ?_
      refine oA 37 (.bool true) ?_
      exact lW _ (J71 _ _ z)
     | false =>
      replace z := ifB_f z
      refine oA 33 (.int .i64 t1_65) ?_
      refine oA 34 (strA t0) ?_
      refine oA 35 (.int .i64 (lenS t0)) ?_
      refine oB 36 z fun t36 z => ?_
      refine oA 37 (.bool t36) ?_
      exact lW _ (J71 _ _ z)
   exact gW _ (L64 _ _ _ _ z)
  cases t27 with
  | true =>
   refine oT z fun z => ?_
   refine W.r ?_
   refine oA 29 (.int .i64 t1) ?_
   refine oI 30 .i64 z fun t30 z => ?_
   refine oA 1 (.int .i64 t30) ?_
   refine oV [(0, strA t0), (1, .int .i64 t30), (4, newP h), (7, newP h_2), (8, .bool true)] ?_
   exact gW _ (J16 _ _ z)
  | false =>
   refine oU z fun z => ?_
   refine oZ ?_
   exact gW _ (J16 _ _ z)
 cases t21 with
 | true =>
  replace z := ifB_t z
  refine oA 23 (strA t0) ?_
  refine oA 24 (.int .i64 t1) ?_
  refine oX 25 9 .i64 z fun t25 z => ?_
  refine oB 26 z fun t26 z => ?_
  refine oA 27 (.bool t26) ?_
  exact lW _ (J13 _ _ z)
 | false =>
  replace z := ifB_f z
  refine WL.o (some 23) ?_
  refine WL.o (some 24) ?_
  refine WL.o (some 25) ?_
  refine WL.o (some 26) ?_
  refine oA 27 (.bool false) ?_
  exact lW _ (J13 _ _ z)
noncomputable def ref09_member (_ : CallF) (_ : Nat) (t0 : Bytes) (t1 : Int) (h : AHeap) : R :=
 lett ((t1 : Int) == (lenS t0)) fun (t10 : Bool) =>
 lett (fun (t16 : Bool) (h_5 : AHeap) =>
  lett (fun (t22 : Bool) (h_8 : AHeap) =>
   lett (fun (t28 : Bool) (h_11 : AHeap) =>
    lett (fun (t34 : Bool) (h_14 : AHeap) =>
     ifB t34
     (
      some (.ret (.tup [.int .u8 0, .int .i64 t1, .bool false]), h_14))
     (
      obind (idxS t0 t1) fun t38 =>
      lett ((t38 : Int) != 92) fun (t39 : Bool) =>
      ifB t39
      (
       obind (idxS t0 t1) fun t42 =>
       lett (IntKind.i64.wrap (t1 + 1)) fun (t44 : Int) =>
       some (.ret (.tup [.int .u8 t42, .int .i64 t44, .bool true]), h_14))
      (
       lett (IntKind.i64.wrap (t1 + 1)) fun (t46 : Int) =>
       lett ((t46 : Int) == (lenS t0)) fun (t49 : Bool) =>
       ifB t49
       (
        lett (IntKind.i64.wrap (t1 + 1)) fun (t51 : Int) =>
        some (.ret (.tup [.int .u8 0, .int .i64 t51, .bool false]), h_14))
       (
        lett (IntKind.i64.wrap (t1 + 1)) fun (t54 : Int) =>
        obind (idxS t0 t54) fun t55 =>
        lett (IntKind.i64.wrap (t1 + 2)) fun (t57 : Int) =>
        some (.ret (.tup [.int .u8 t55, .int .i64 t57, .bool true]), h_14))))) fun j34 =>
    ifB t28
    (
     j34 true h_11)
    (
     obind (idxS t0 t1) fun t32 =>
     lett ((t32 : Int) == 45) fun (t33 : Bool) =>
     j34 t33 h_11)) fun j28 =>
   ifB t22
   (
    j28 true h_8)
   (
    obind (idxS t0 t1) fun t26 =>
    lett ((t26 : Int) == 94) fun (t27 : Bool) =>
    j28 t27 h_8)) fun j22 =>
  ifB t16
  (
   j22 true h_5)
  (
   obind (idxS t0 t1) fun t20 =>
   lett ((t20 : Int) == 93) fun (t21 : Bool) =>
   j22 t21 h_5)) fun j16 =>
 ifB t10
 (
  j16 true h)
 (
  obind (idxS t0 t1) fun t14 =>
  lett ((t14 : Int) == 91) fun (t15 : Bool) =>
  j16 t15 h)
theorem ref09_member_ok {call : CallF} (_ : SaysAll Pg call) {n : Nat} {t0 : Bytes} {t1 : Int} {h : AHeap} {rR : ARes} {hR : AHeap} (z : ref09_member call n t0 t1 h = some (rR, hR)) : Says Pg 89 [strA t0, .int .i64 t1] h rR hR := by
 unfold ref09_member at z
 refine sO Try.func89 fun w0 m0 => ?_
 refine wW [(0, strA t0), (1, .int .i64 t1)] ?_
 refine oG fun n1 => W.r ?_
 refine oA 4 (.int .u8 0) ?_
 refine oA 5 (.int .i64 0) ?_
 refine oA 6 (.bool false) ?_
 refine oV [(0, strA t0), (1, .int .i64 t1)] (n1 ?_)
 refine oH fun n2 q2 => ?_
 refine W.s (fun K3 n3 _ _ _ => ?_)
 refine W.r ?_
 refine oA 7 (.int .i64 t1) ?_
 refine oA 8 (strA t0) ?_
 refine oA 9 (.int .i64 (lenS t0)) ?_
 refine oB 10 z fun t10 z => ?_
 refine oA 11 (.bool t10) ?_
 obtain ⟨j16, e6, z⟩ := lS z
 have J7 : ∀ (t16 : Bool) (h_5 : AHeap), j16 t16 h_5 = some (rR, hR) → WL Pg w0 m0 (Func.ntmps Try.f89) (Code.ops (Code.p1 (Code.p1 (Code.p2 (codeOf Try.f89))))) 10 K3 [(0, strA t0), (1, .int .i64 t1), (16, .bool t16)] [] h_5 := by
  intro t16 h_5 z
  rw [e6] at z
  refine oA 17 (.bool t16) ?_
  obtain ⟨j22, e9, z⟩ := lS z
  have J10 : ∀ (t22 : Bool) (h_8 : AHeap), j22 t22 h_8 = some (rR, hR) → WL Pg w0 m0 (Func.ntmps Try.f89) (Code.ops (Code.p1 (Code.p1 (Code.p2 (codeOf Try.f89))))) 16 K3 [(0, strA t0), (1, .int .i64 t1), (22, .bool t22)] [] h_8 := by
   intro t22 h_8 z
   rw [e9] at z
   refine oA 23 (.bool t22) ?_
   obtain ⟨j28, e12, z⟩ := lS z
   have J13 : ∀ (t28 : Bool) (h_11 : AHeap), j28 t28 h_11 = some (rR, hR) → WL Pg w0 m0 (Func.ntmps Try.f89) (Code.ops (Code.p1 (Code.p1 (Code.p2 (codeOf Try.f89))))) 22 K3 [(0, strA t0), (1, .int .i64 t1), (28, .bool t28)] [] h_11 := by
    intro t28 h_11 z
    rw [e12] at z
    refine oA 29 (.bool t28) ?_
    obtain ⟨j34, e15, z⟩ := lS z
    have J16 : ∀ (t34 : Bool) (h_14 : AHeap), j34 t34 h_14 = some (rR, hR) → WL Pg w0 m0 (Func.ntmps Try.f89) (Code.ops (Code.p1 (Code.p1 (Code.p2 (codeOf Try.f89))))) 28 K3 [(0, strA t0), (1, .int .i64 t1), (34, .bool t34)] [] h_14 := by
     intro t34 h_14 z
     rw [e15] at z
     refine oV [(0, strA t0), (1, .int .i64 t1), (34, .bool t34)] (n3 ?_)
     cases t34 with
     | true =>
      refine oT z fun z => ?_
      refine oG fun n17 => W.r ?_
      refine oA 35 (.int .i64 t1) ?_
      refine oA 4 (.int .u8 0) ?_
      refine oA 5 (.int .i64 t1) ?_
      refine oA 6 (.bool false) ?_
      refine oV [(4, .int .u8 0), (5, .int .i64 t1), (6, .bool false)] (n17 (oY (q2 ?_)))
      exact lZ z [.tmp 4, .tmp 5, .tmp 6] [.int .u8 0, .int .i64 t1, .bool false] (rT (rT (rT res_nil)))
     | false =>
      refine oU z fun z => ?_
      refine oZ (n2 ?_)
      refine oH fun n18 q18 => ?_
      refine oG fun n19 => W.r ?_
      refine oA 36 (strA t0) ?_
      refine oA 37 (.int .i64 t1) ?_
      refine oX 38 9 .i64 z fun t38 z => ?_
      refine oB 39 z fun t39 z => ?_
      refine oV [(0, strA t0), (1, .int .i64 t1), (39, .bool t39)] (n19 ?_)
      cases t39 with
      | true =>
       refine oT z fun z => ?_
       refine oG fun n22 => W.r ?_
       refine oA 40 (strA t0) ?_
       refine oA 41 (.int .i64 t1) ?_
       refine oX 42 9 .i64 z fun t42 z => ?_
       refine oA 43 (.int .i64 t1) ?_
       refine oI 44 .i64 z fun t44 z => ?_
       refine oA 4 (.int .u8 t42) ?_
       refine oA 5 (.int .i64 t44) ?_
       refine oA 6 (.bool true) ?_
       refine oV [(4, .int .u8 t42), (5, .int .i64 t44), (6, .bool true)] (n22 (oY (q18 ?_)))
       exact lZ z [.tmp 4, .tmp 5, .tmp 6] [.int .u8 t42, .int .i64 t44, .bool true] (rT (rT (rT res_nil)))
      | false =>
       refine oU z fun z => ?_
       refine oZ (n18 ?_)
       refine oH fun n25 q25 => ?_
       refine oG fun n26 => W.r ?_
       refine oA 45 (.int .i64 t1) ?_
       refine oI 46 .i64 z fun t46 z => ?_
       refine oA 47 (strA t0) ?_
       refine oA 48 (.int .i64 (lenS t0)) ?_
       refine oB 49 z fun t49 z => ?_
       refine oV [(0, strA t0), (1, .int .i64 t1), (49, .bool t49)] (n26 ?_)
       cases t49 with
       | true =>
        refine oT z fun z => ?_
        refine oG fun n29 => W.r ?_
        refine oA 50 (.int .i64 t1) ?_
        refine oI 51 .i64 z fun t51 z => ?_
        refine oA 4 (.int .u8 0) ?_
        refine oA 5 (.int .i64 t51) ?_
        refine oA 6 (.bool false) ?_
        refine oV [(4, .int .u8 0), (5, .int .i64 t51), (6, .bool false)] (n29 (oY (q25 ?_)))
        exact lZ z [.tmp 4, .tmp 5, .tmp 6] [.int .u8 0, .int .i64 t51, .bool false] (rT (rT (rT res_nil)))
       | false =>
        refine oU z fun z => ?_
        refine oZ (n25 ?_)
        refine oG fun n31 => W.r ?_
        refine oA 52 (strA t0) ?_
        refine oA 53 (.int .i64 t1) ?_
        refine oI 54 .i64 z fun t54 z => ?_
        refine oX 55 9 .i64 z fun t55 z => ?_
        refine oA 56 (.int .i64 t1) ?_
        refine oI 57 .i64 z fun t57 z => ?_
        refine oA 4 (.int .u8 t55) ?_
        refine oA 5 (.int .i64 t57) ?_
        refine oA 6 (.bool true) ?_
        refine oV [(4, .int .u8 t55), (5, .int .i64 t57), (6, .bool true)] (n31 (oY ?_))
        exact lZ z [.tmp 4, .tmp 5, .tmp 6] [.int .u8 t55, .int .i64 t57, .bool true] (rT (rT (rT res_nil)))
    cases t28 with
    | true =>
     replace z := ifB_t z
     refine WL.o (some 30) ?_
     refine WL.o (some 31) ?_
     refine WL.o (some 32) ?_
     refine WL.o (some 33) ?_
     refine oA 34 (.bool true) ?_
     exact lW _ (J16 _ _ z)
    | false =>
     replace z := ifB_f z
     refine oA 30 (strA t0) ?_
     refine oA 31 (.int .i64 t1) ?_
     refine oX 32 9 .i64 z fun t32 z => ?_
     refine oB 33 z fun t33 z => ?_
     refine oA 34 (.bool t33) ?_
     exact lW _ (J16 _ _ z)
   cases t22 with
   | true =>
    replace z := ifB_t z
    refine WL.o (some 24) ?_
    refine WL.o (some 25) ?_
    refine WL.o (some 26) ?_
    refine WL.o (some 27) ?_
    refine oA 28 (.bool true) ?_
    exact lW _ (J13 _ _ z)
   | false =>
    replace z := ifB_f z
    refine oA 24 (strA t0) ?_
    refine oA 25 (.int .i64 t1) ?_
    refine oX 26 9 .i64 z fun t26 z => ?_
    refine oB 27 z fun t27 z => ?_
    refine oA 28 (.bool t27) ?_
    exact lW _ (J13 _ _ z)
  cases t16 with
  | true =>
   replace z := ifB_t z
   refine WL.o (some 18) ?_
   refine WL.o (some 19) ?_
   refine WL.o (some 20) ?_
   refine WL.o (some 21) ?_
   refine oA 22 (.bool true) ?_
   exact lW _ (J10 _ _ z)
  | false =>
   replace z := ifB_f z
   refine oA 18 (strA t0) ?_
   refine oA 19 (.int .i64 t1) ?_
   refine oX 20 9 .i64 z fun t20 z => ?_
   refine oB 21 z fun t21 z => ?_
   refine oA 22 (.bool t21) ?_
   exact lW _ (J10 _ _ z)
 cases t10 with
 | true =>
  replace z := ifB_t z
  refine WL.o (some 12) ?_
  refine WL.o (some 13) ?_
  refine WL.o (some 14) ?_
  refine WL.o (some 15) ?_
  refine oA 16 (.bool true) ?_
  exact lW _ (J7 _ _ z)
 | false =>
  replace z := ifB_f z
  refine oA 12 (strA t0) ?_
  refine oA 13 (.int .i64 t1) ?_
  refine oX 14 9 .i64 z fun t14 z => ?_
  refine oB 15 z fun t15 z => ?_
  refine oA 16 (.bool t15) ?_
  exact lW _ (J7 _ _ z)
set_option maxHeartbeats 4000000
set_option maxRecDepth 20000
noncomputable def law09_long (_ : CallF) (_ : Nat) (t0 : Int) (h : AHeap) : R :=
 lett (decide (t0 > 65536)) fun (t4 : Bool) =>
 some (.ret (.bool t4), h)
theorem law09_long_ok {call : CallF} (_ : SaysAll Pg call) {n : Nat} {t0 : Int} {h : AHeap} {rR : ARes} {hR : AHeap} (z : law09_long call n t0 h = some (rR, hR)) : Says Pg 14 [.int .i64 t0] h rR hR := by
 unfold law09_long at z
 refine sO Try.func14 fun w0 m0 => ?_
 refine wW [(0, .int .i64 t0)] ?_
 refine oG fun n1 => W.r ?_
 refine oA 2 (.bool false) ?_
 refine oV [(0, .int .i64 t0)] (n1 ?_)
 refine oG fun n2 => W.r ?_
 refine oA 3 (.int .i64 t0) ?_
 refine oB 4 z fun t4 z => ?_
 refine oA 2 (.bool t4) ?_
 refine oV [(2, .bool t4)] (n2 (oY ?_))
 exact lZ z [.tmp 2] [.bool t4] (rT res_nil)
noncomputable def worldF (n : Nat) (call : CallF) : CallF := callOf [
 (13, (constF (.ret (.bool true)))),
 (87, ibF),
 (32, signF),
 (35, fn1 Dv (pattern_guard call n)),
 (37, fn2 Dv (Di .i64) (pattern_reader_quoted call n)),
 (54, fn2 Dv (Di .u8) (pattern_reader_take call n)),
 (55, fn2 Dv (Di .u8) (pattern_reader_skips call n)),
 (68, fn2 Dv (Di .u8) (pattern_reader_sees call n)),
 (74, fn1 Dv (pattern_reader_ended call n)),
 (62, fn1 Dv (pattern_reader_end call n)),
 (58, fn1 Dv (pattern_reader_form call n)),
 (71, fn1 Dv (pattern_reader_next call n)),
 (72, fn1 Dv (pattern_reader_refuseLast call n)),
 (57, gcF (fn2 (Di .i64) (Di .i64) (pattern_refuse call n))),
 (73, fn1 Dv (pattern_reader_twoDigits call n)),
 (81, fn1 Dv (pattern_reader_digit call n)),
 (82, gcF (fn1 (Di .u8) (pattern_mayBegin call n))),
 (83, gcF (fn1 (Di .u8) (pattern_byDigits call n))),
 (50, gcF (fn1 (Di .u8) (pattern_short call n))),
 (51, gcF (fn1 (Di .u8) (pattern_plain call n))),
 (29, fn2 Dv (Di .u8) (strings_Builder_WriteByte call n)),
 (56, fn1 Dv (strings_Builder_Len call n)),
 (31, fn1 Dv (strings_Builder_String call n)),
 (49, fn1 Dv (strings_Builder_copyCheck call n)),
 (21, gcF (fn1 Da (pattern_Tree call n))),
 (39, fn3 Dv Dv Dv (pattern_Tree_1 call n)),
 (40, fn2 Dv (Di .i64) (pattern_reader_tree call n)),
 (59, fn2 Dv Dv (pattern_reader_row call n)),
 (63, fn1 Dv (pattern_reader_literalPart call n)),
 (60, fn1 Dv (pattern_reader_globPart call n)),
 (61, fn1 Dv (pattern_reader_alternatives call n)),
 (79, fn1 Dv (pattern_reader_regularRow call n)),
 (85, fn1 Dv (pattern_reader_regularPart call n)),
 (88, fn1 Dv (pattern_reader_atom call n)),
 (91, fn1 Dv (pattern_reader_members call n)),
 (93, fn2 Dv Dv (pattern_reader_member call n)),
 (94, fn1 Dv (pattern_reader_memberByte call n)),
 (84, fn3 Dv (Di .u8) (Di .u8) (pattern_addSpan call n)),
 (78, gcF (fn1 (Di .u8) (pattern_oneByte call n))),
 (77, gcF (fn0 (pattern_anyByte call n))),
 (76, fn2 (Di .i64) Dv (pattern_over call n)),
 (75, fn1 Dv (pattern_inRow call n)),
 (24, gcF (fn1 Ds (pattern_Parse call n))),
 (44, fn3 Dv Dv Dv (pattern_Parse_1 call n)),
 (45, fn1 Dv (pattern_reader_pattern call n)),
 (69, fn2 Dv Ds (pattern_reader_word call n)),
 (15, gcF (fn1 Ds (pattern_Quote call n))),
 (30, fn2 Dv (Di .u8) (pattern_writeForm call n)),
 (52, fn2 Dv Ds (strings_Builder_WriteString call n)),
 (38, gcF (fn2 Ds (Di .i64) (ref09_byteAt call n))),
 (33, gcF (fn2 Ds (Di .i64) (ref09_Scan call n))),
 (34, gcF (fn1 (Di .i64) (ref09_bad call n))),
 (22, gcF (fn1 Da (ref09_Tree call n))),
 (25, gcF (fn1 Ds (ref09_Parse call n))),
 (46, gcF (fn1 (Di .i64) (ref09_word call n))),
 (41, gcF (fn1 Ds (ref09_literal call n))),
 (42, gcF (fn1 Ds (ref09_glob call n))),
 (64, gcF (fn1 (Di .u8) (ref09_One call n))),
 (66, gcF (fn0 (ref09_All call n))),
 (65, fn2 (Di .i64) Dv (ref09_Over call n)),
 (43, gcF (fn2 Ds (Di .i64) (ref09_alts call n))),
 (67, gcF (fn2 Ds (Di .i64) (ref09_row call n))),
 (80, gcF (fn2 Ds (Di .i64) (ref09_atom call n))),
 (86, gcF (fn2 Ds (Di .i64) (ref09_class call n))),
 (89, gcF (fn2 Ds (Di .i64) (ref09_member call n))),
 (14, gcF (fn1 (Di .i64) (law09_long call n)))]
set_option maxRecDepth 20000 in
theorem worldF_ok (n : Nat) (call : CallF) (hc : SaysAll Try.prog call) : SaysAll Try.prog (worldF n call) := (callOf_cons works_holds
 (callOf_cons ibF_holds
 (callOf_cons signF_holds
 (callOf_cons (fn1_holds Dv (pattern_guard_ok hc))
 (callOf_cons (fn2_holds Dv (Di .i64) (pattern_reader_quoted_ok hc))
 (callOf_cons (fn2_holds Dv (Di .u8) (pattern_reader_take_ok hc))
 (callOf_cons (fn2_holds Dv (Di .u8) (pattern_reader_skips_ok hc))
 (callOf_cons (fn2_holds Dv (Di .u8) (pattern_reader_sees_ok hc))
 (callOf_cons (fn1_holds Dv (pattern_reader_ended_ok hc))
 (callOf_cons (fn1_holds Dv (pattern_reader_end_ok hc))
 (callOf_cons (fn1_holds Dv (pattern_reader_form_ok hc))
 (callOf_cons (fn1_holds Dv (pattern_reader_next_ok hc))
 (callOf_cons (fn1_holds Dv (pattern_reader_refuseLast_ok hc))
 (callOf_cons (gcF_holds (fn2_holds (Di .i64) (Di .i64) (pattern_refuse_ok hc)))
 (callOf_cons (fn1_holds Dv (pattern_reader_twoDigits_ok hc))
 (callOf_cons (fn1_holds Dv (pattern_reader_digit_ok hc))
 (callOf_cons (gcF_holds (fn1_holds (Di .u8) (pattern_mayBegin_ok hc)))
 (callOf_cons (gcF_holds (fn1_holds (Di .u8) (pattern_byDigits_ok hc)))
 (callOf_cons (gcF_holds (fn1_holds (Di .u8) (pattern_short_ok hc)))
 (callOf_cons (gcF_holds (fn1_holds (Di .u8) (pattern_plain_ok hc)))
 (callOf_cons (fn2_holds Dv (Di .u8) (strings_Builder_WriteByte_ok hc))
 (callOf_cons (fn1_holds Dv (strings_Builder_Len_ok hc))
 (callOf_cons (fn1_holds Dv (strings_Builder_String_ok hc))
 (callOf_cons (fn1_holds Dv (strings_Builder_copyCheck_ok hc))
 (callOf_cons (gcF_holds (fn1_holds Da (pattern_Tree_ok hc)))
 (callOf_cons (fn3_holds Dv Dv Dv (pattern_Tree_1_ok hc))
 (callOf_cons (fn2_holds Dv (Di .i64) (pattern_reader_tree_ok hc))
 (callOf_cons (fn2_holds Dv Dv (pattern_reader_row_ok hc))
 (callOf_cons (fn1_holds Dv (pattern_reader_literalPart_ok hc))
 (callOf_cons (fn1_holds Dv (pattern_reader_globPart_ok hc))
 (callOf_cons (fn1_holds Dv (pattern_reader_alternatives_ok hc))
 (callOf_cons (fn1_holds Dv (pattern_reader_regularRow_ok hc))
 (callOf_cons (fn1_holds Dv (pattern_reader_regularPart_ok hc))
 (callOf_cons (fn1_holds Dv (pattern_reader_atom_ok hc))
 (callOf_cons (fn1_holds Dv (pattern_reader_members_ok hc))
 (callOf_cons (fn2_holds Dv Dv (pattern_reader_member_ok hc))
 (callOf_cons (fn1_holds Dv (pattern_reader_memberByte_ok hc))
 (callOf_cons (fn3_holds Dv (Di .u8) (Di .u8) (pattern_addSpan_ok hc))
 (callOf_cons (gcF_holds (fn1_holds (Di .u8) (pattern_oneByte_ok hc)))
 (callOf_cons (gcF_holds (fn0_holds (pattern_anyByte_ok hc)))
 (callOf_cons (fn2_holds (Di .i64) Dv (pattern_over_ok hc))
 (callOf_cons (fn1_holds Dv (pattern_inRow_ok hc))
 (callOf_cons (gcF_holds (fn1_holds Ds (pattern_Parse_ok hc)))
 (callOf_cons (fn3_holds Dv Dv Dv (pattern_Parse_1_ok hc))
 (callOf_cons (fn1_holds Dv (pattern_reader_pattern_ok hc))
 (callOf_cons (fn2_holds Dv Ds (pattern_reader_word_ok hc))
 (callOf_cons (gcF_holds (fn1_holds Ds (pattern_Quote_ok hc)))
 (callOf_cons (fn2_holds Dv (Di .u8) (pattern_writeForm_ok hc))
 (callOf_cons (fn2_holds Dv Ds (strings_Builder_WriteString_ok hc))
 (callOf_cons (gcF_holds (fn2_holds Ds (Di .i64) (ref09_byteAt_ok hc)))
 (callOf_cons (gcF_holds (fn2_holds Ds (Di .i64) (ref09_Scan_ok hc)))
 (callOf_cons (gcF_holds (fn1_holds (Di .i64) (ref09_bad_ok hc)))
 (callOf_cons (gcF_holds (fn1_holds Da (ref09_Tree_ok hc)))
 (callOf_cons (gcF_holds (fn1_holds Ds (ref09_Parse_ok hc)))
 (callOf_cons (gcF_holds (fn1_holds (Di .i64) (ref09_word_ok hc)))
 (callOf_cons (gcF_holds (fn1_holds Ds (ref09_literal_ok hc)))
 (callOf_cons (gcF_holds (fn1_holds Ds (ref09_glob_ok hc)))
 (callOf_cons (gcF_holds (fn1_holds (Di .u8) (ref09_One_ok hc)))
 (callOf_cons (gcF_holds (fn0_holds (ref09_All_ok hc)))
 (callOf_cons (fn2_holds (Di .i64) Dv (ref09_Over_ok hc))
 (callOf_cons (gcF_holds (fn2_holds Ds (Di .i64) (ref09_alts_ok hc)))
 (callOf_cons (gcF_holds (fn2_holds Ds (Di .i64) (ref09_row_ok hc)))
 (callOf_cons (gcF_holds (fn2_holds Ds (Di .i64) (ref09_atom_ok hc)))
 (callOf_cons (gcF_holds (fn2_holds Ds (Di .i64) (ref09_class_ok hc)))
 (callOf_cons (gcF_holds (fn2_holds Ds (Di .i64) (ref09_member_ok hc)))
 (callOf_cons (gcF_holds (fn1_holds (Di .i64) (law09_long_ok hc)))
 callOf_nil))))))))))))))))))))))))))))))))))))))))))))))))))))))))))))))))))
noncomputable def world (n d : Nat) : CallF := iterW (worldF n) d
theorem world_ok (n d : Nat) : SaysAll Try.prog (world n d) := iterW_ok (worldF_ok n) d
theorem w_ibF (n d : Nat) (args : List AV) (h : AHeap) : world n (d + 1) 87 args h = ibF args h := by kernel_rfl
theorem w_signF (n d : Nat) (args : List AV) (h : AHeap) : world n (d + 1) 32 args h = signF args h := by kernel_rfl
theorem w_pattern_guard (n d : Nat) (t0 : AV) (h : AHeap) : world n (d + 1) 35 [t0] h = pattern_guard (world n d) n t0 h :=
 Eq.trans (b := fn1 Dv (pattern_guard (world n d) n) [t0] h) (by kernel_rfl) (fn1_eq Dv _ t0 h)
theorem w_pattern_reader_quoted (n d : Nat) (t0 : AV) (t1 : Int) (h : AHeap) : world n (d + 1) 37 [t0, .int .i64 t1] h = pattern_reader_quoted (world n d) n t0 t1 h :=
 Eq.trans (b := fn2 Dv (Di .i64) (pattern_reader_quoted (world n d) n) [t0, .int .i64 t1] h) (by kernel_rfl) (fn2_eq Dv (Di .i64) _ t0 t1 h)
theorem w_pattern_reader_take (n d : Nat) (t0 : AV) (t1 : Int) (h : AHeap) : world n (d + 1) 54 [t0, .int .u8 t1] h = pattern_reader_take (world n d) n t0 t1 h :=
 Eq.trans (b := fn2 Dv (Di .u8) (pattern_reader_take (world n d) n) [t0, .int .u8 t1] h) (by kernel_rfl) (fn2_eq Dv (Di .u8) _ t0 t1 h)
theorem w_pattern_reader_skips (n d : Nat) (t0 : AV) (t1 : Int) (h : AHeap) : world n (d + 1) 55 [t0, .int .u8 t1] h = pattern_reader_skips (world n d) n t0 t1 h :=
 Eq.trans (b := fn2 Dv (Di .u8) (pattern_reader_skips (world n d) n) [t0, .int .u8 t1] h) (by kernel_rfl) (fn2_eq Dv (Di .u8) _ t0 t1 h)
theorem w_pattern_reader_sees (n d : Nat) (t0 : AV) (t1 : Int) (h : AHeap) : world n (d + 1) 68 [t0, .int .u8 t1] h = pattern_reader_sees (world n d) n t0 t1 h :=
 Eq.trans (b := fn2 Dv (Di .u8) (pattern_reader_sees (world n d) n) [t0, .int .u8 t1] h) (by kernel_rfl) (fn2_eq Dv (Di .u8) _ t0 t1 h)
theorem w_pattern_reader_ended (n d : Nat) (t0 : AV) (h : AHeap) : world n (d + 1) 74 [t0] h = pattern_reader_ended (world n d) n t0 h :=
 Eq.trans (b := fn1 Dv (pattern_reader_ended (world n d) n) [t0] h) (by kernel_rfl) (fn1_eq Dv _ t0 h)
theorem w_pattern_reader_end (n d : Nat) (t0 : AV) (h : AHeap) : world n (d + 1) 62 [t0] h = pattern_reader_end (world n d) n t0 h :=
 Eq.trans (b := fn1 Dv (pattern_reader_end (world n d) n) [t0] h) (by kernel_rfl) (fn1_eq Dv _ t0 h)
theorem w_pattern_reader_form (n d : Nat) (t0 : AV) (h : AHeap) : world n (d + 1) 58 [t0] h = pattern_reader_form (world n d) n t0 h :=
 Eq.trans (b := fn1 Dv (pattern_reader_form (world n d) n) [t0] h) (by kernel_rfl) (fn1_eq Dv _ t0 h)
theorem w_pattern_reader_next (n d : Nat) (t0 : AV) (h : AHeap) : world n (d + 1) 71 [t0] h = pattern_reader_next (world n d) n t0 h :=
 Eq.trans (b := fn1 Dv (pattern_reader_next (world n d) n) [t0] h) (by kernel_rfl) (fn1_eq Dv _ t0 h)
theorem w_pattern_reader_refuseLast (n d : Nat) (t0 : AV) (h : AHeap) : world n (d + 1) 72 [t0] h = pattern_reader_refuseLast (world n d) n t0 h :=
 Eq.trans (b := fn1 Dv (pattern_reader_refuseLast (world n d) n) [t0] h) (by kernel_rfl) (fn1_eq Dv _ t0 h)
theorem w_pattern_refuse (n d : Nat) (t0 : Int) (t1 : Int) (h : AHeap) : world n (d + 1) 57 [.int .i64 t0, .int .i64 t1] h = gcR h (pattern_refuse (world n d) n t0 t1 h) :=
 Eq.trans (b := gcR h (fn2 (Di .i64) (Di .i64) (pattern_refuse (world n d) n) [.int .i64 t0, .int .i64 t1] h)) (by kernel_rfl) (congrArg (gcR h) (fn2_eq (Di .i64) (Di .i64) _ t0 t1 h))
theorem w_pattern_reader_twoDigits (n d : Nat) (t0 : AV) (h : AHeap) : world n (d + 1) 73 [t0] h = pattern_reader_twoDigits (world n d) n t0 h :=
 Eq.trans (b := fn1 Dv (pattern_reader_twoDigits (world n d) n) [t0] h) (by kernel_rfl) (fn1_eq Dv _ t0 h)
theorem w_pattern_reader_digit (n d : Nat) (t0 : AV) (h : AHeap) : world n (d + 1) 81 [t0] h = pattern_reader_digit (world n d) n t0 h :=
 Eq.trans (b := fn1 Dv (pattern_reader_digit (world n d) n) [t0] h) (by kernel_rfl) (fn1_eq Dv _ t0 h)
theorem w_pattern_mayBegin (n d : Nat) (t0 : Int) (h : AHeap) : world n (d + 1) 82 [.int .u8 t0] h = gcR h (pattern_mayBegin (world n d) n t0 h) :=
 Eq.trans (b := gcR h (fn1 (Di .u8) (pattern_mayBegin (world n d) n) [.int .u8 t0] h)) (by kernel_rfl) (congrArg (gcR h) (fn1_eq (Di .u8) _ t0 h))
theorem w_pattern_byDigits (n d : Nat) (t0 : Int) (h : AHeap) : world n (d + 1) 83 [.int .u8 t0] h = gcR h (pattern_byDigits (world n d) n t0 h) :=
 Eq.trans (b := gcR h (fn1 (Di .u8) (pattern_byDigits (world n d) n) [.int .u8 t0] h)) (by kernel_rfl) (congrArg (gcR h) (fn1_eq (Di .u8) _ t0 h))
theorem w_pattern_short (n d : Nat) (t0 : Int) (h : AHeap) : world n (d + 1) 50 [.int .u8 t0] h = gcR h (pattern_short (world n d) n t0 h) :=
 Eq.trans (b := gcR h (fn1 (Di .u8) (pattern_short (world n d) n) [.int .u8 t0] h)) (by kernel_rfl) (congrArg (gcR h) (fn1_eq (Di .u8) _ t0 h))
theorem w_pattern_plain (n d : Nat) (t0 : Int) (h : AHeap) : world n (d + 1) 51 [.int .u8 t0] h = gcR h (pattern_plain (world n d) n t0 h) :=
 Eq.trans (b := gcR h (fn1 (Di .u8) (pattern_plain (world n d) n) [.int .u8 t0] h)) (by kernel_rfl) (congrArg (gcR h) (fn1_eq (Di .u8) _ t0 h))
theorem w_strings_Builder_WriteByte (n d : Nat) (t0 : AV) (t1 : Int) (h : AHeap) : world n (d + 1) 29 [t0, .int .u8 t1] h = strings_Builder_WriteByte (world n d) n t0 t1 h :=
 Eq.trans (b := fn2 Dv (Di .u8) (strings_Builder_WriteByte (world n d) n) [t0, .int .u8 t1] h) (by kernel_rfl) (fn2_eq Dv (Di .u8) _ t0 t1 h)
theorem w_strings_Builder_Len (n d : Nat) (t0 : AV) (h : AHeap) : world n (d + 1) 56 [t0] h = strings_Builder_Len (world n d) n t0 h :=
 Eq.trans (b := fn1 Dv (strings_Builder_Len (world n d) n) [t0] h) (by kernel_rfl) (fn1_eq Dv _ t0 h)
theorem w_strings_Builder_String (n d : Nat) (t0 : AV) (h : AHeap) : world n (d + 1) 31 [t0] h = strings_Builder_String (world n d) n t0 h :=
 Eq.trans (b := fn1 Dv (strings_Builder_String (world n d) n) [t0] h) (by kernel_rfl) (fn1_eq Dv _ t0 h)
theorem w_strings_Builder_copyCheck (n d : Nat) (t0 : AV) (h : AHeap) : world n (d + 1) 49 [t0] h = strings_Builder_copyCheck (world n d) n t0 h :=
 Eq.trans (b := fn1 Dv (strings_Builder_copyCheck (world n d) n) [t0] h) (by kernel_rfl) (fn1_eq Dv _ t0 h)
theorem w_pattern_Tree (n d : Nat) (t0 : List AV) (h : AHeap) : world n (d + 1) 21 [.agg t0] h = gcR h (pattern_Tree (world n d) n t0 h) :=
 Eq.trans (b := gcR h (fn1 Da (pattern_Tree (world n d) n) [.agg t0] h)) (by kernel_rfl) (congrArg (gcR h) (fn1_eq Da _ t0 h))
theorem w_pattern_Tree_1 (n d : Nat) (t0 : AV) (t1 : AV) (t2 : AV) (h : AHeap) : world n (d + 1) 39 [t0, t1, t2] h = pattern_Tree_1 (world n d) n t0 t1 t2 h :=
 Eq.trans (b := fn3 Dv Dv Dv (pattern_Tree_1 (world n d) n) [t0, t1, t2] h) (by kernel_rfl) (fn3_eq Dv Dv Dv _ t0 t1 t2 h)
theorem w_pattern_reader_tree (n d : Nat) (t0 : AV) (t1 : Int) (h : AHeap) : world n (d + 1) 40 [t0, .int .i64 t1] h = pattern_reader_tree (world n d) n t0 t1 h :=
 Eq.trans (b := fn2 Dv (Di .i64) (pattern_reader_tree (world n d) n) [t0, .int .i64 t1] h) (by kernel_rfl) (fn2_eq Dv (Di .i64) _ t0 t1 h)
theorem w_pattern_reader_row (n d : Nat) (t0 : AV) (t1 : AV) (h : AHeap) : world n (d + 1) 59 [t0, t1] h = pattern_reader_row (world n d) n t0 t1 h :=
 Eq.trans (b := fn2 Dv Dv (pattern_reader_row (world n d) n) [t0, t1] h) (by kernel_rfl) (fn2_eq Dv Dv _ t0 t1 h)
theorem w_pattern_reader_literalPart (n d : Nat) (t0 : AV) (h : AHeap) : world n (d + 1) 63 [t0] h = pattern_reader_literalPart (world n d) n t0 h :=
 Eq.trans (b := fn1 Dv (pattern_reader_literalPart (world n d) n) [t0] h) (by kernel_rfl) (fn1_eq Dv _ t0 h)
theorem w_pattern_reader_globPart (n d : Nat) (t0 : AV) (h : AHeap) : world n (d + 1) 60 [t0] h = pattern_reader_globPart (world n d) n t0 h :=
 Eq.trans (b := fn1 Dv (pattern_reader_globPart (world n d) n) [t0] h) (by kernel_rfl) (fn1_eq Dv _ t0 h)
theorem w_pattern_reader_alternatives (n d : Nat) (t0 : AV) (h : AHeap) : world n (d + 1) 61 [t0] h = pattern_reader_alternatives (world n d) n t0 h :=
 Eq.trans (b := fn1 Dv (pattern_reader_alternatives (world n d) n) [t0] h) (by kernel_rfl) (fn1_eq Dv _ t0 h)
theorem w_pattern_reader_regularRow (n d : Nat) (t0 : AV) (h : AHeap) : world n (d + 1) 79 [t0] h = pattern_reader_regularRow (world n d) n t0 h :=
 Eq.trans (b := fn1 Dv (pattern_reader_regularRow (world n d) n) [t0] h) (by kernel_rfl) (fn1_eq Dv _ t0 h)
theorem w_pattern_reader_regularPart (n d : Nat) (t0 : AV) (h : AHeap) : world n (d + 1) 85 [t0] h = pattern_reader_regularPart (world n d) n t0 h :=
 Eq.trans (b := fn1 Dv (pattern_reader_regularPart (world n d) n) [t0] h) (by kernel_rfl) (fn1_eq Dv _ t0 h)
theorem w_pattern_reader_atom (n d : Nat) (t0 : AV) (h : AHeap) : world n (d + 1) 88 [t0] h = pattern_reader_atom (world n d) n t0 h :=
 Eq.trans (b := fn1 Dv (pattern_reader_atom (world n d) n) [t0] h) (by kernel_rfl) (fn1_eq Dv _ t0 h)
theorem w_pattern_reader_members (n d : Nat) (t0 : AV) (h : AHeap) : world n (d + 1) 91 [t0] h = pattern_reader_members (world n d) n t0 h :=
 Eq.trans (b := fn1 Dv (pattern_reader_members (world n d) n) [t0] h) (by kernel_rfl) (fn1_eq Dv _ t0 h)
theorem w_pattern_reader_member (n d : Nat) (t0 : AV) (t1 : AV) (h : AHeap) : world n (d + 1) 93 [t0, t1] h = pattern_reader_member (world n d) n t0 t1 h :=
 Eq.trans (b := fn2 Dv Dv (pattern_reader_member (world n d) n) [t0, t1] h) (by kernel_rfl) (fn2_eq Dv Dv _ t0 t1 h)
theorem w_pattern_reader_memberByte (n d : Nat) (t0 : AV) (h : AHeap) : world n (d + 1) 94 [t0] h = pattern_reader_memberByte (world n d) n t0 h :=
 Eq.trans (b := fn1 Dv (pattern_reader_memberByte (world n d) n) [t0] h) (by kernel_rfl) (fn1_eq Dv _ t0 h)
theorem w_pattern_addSpan (n d : Nat) (t0 : AV) (t1 : Int) (t2 : Int) (h : AHeap) : world n (d + 1) 84 [t0, .int .u8 t1, .int .u8 t2] h = pattern_addSpan (world n d) n t0 t1 t2 h :=
 Eq.trans (b := fn3 Dv (Di .u8) (Di .u8) (pattern_addSpan (world n d) n) [t0, .int .u8 t1, .int .u8 t2] h) (by kernel_rfl) (fn3_eq Dv (Di .u8) (Di .u8) _ t0 t1 t2 h)
theorem w_pattern_oneByte (n d : Nat) (t0 : Int) (h : AHeap) : world n (d + 1) 78 [.int .u8 t0] h = gcR h (pattern_oneByte (world n d) n t0 h) :=
 Eq.trans (b := gcR h (fn1 (Di .u8) (pattern_oneByte (world n d) n) [.int .u8 t0] h)) (by kernel_rfl) (congrArg (gcR h) (fn1_eq (Di .u8) _ t0 h))
theorem w_pattern_anyByte (n d : Nat)  (h : AHeap) : world n (d + 1) 77 [] h = gcR h (pattern_anyByte (world n d) n  h) :=
 Eq.trans (b := gcR h (fn0 (pattern_anyByte (world n d) n) [] h)) (by kernel_rfl) (congrArg (gcR h) (fn0_eq  _  h))
theorem w_pattern_over (n d : Nat) (t0 : Int) (t1 : AV) (h : AHeap) : world n (d + 1) 76 [.int .i64 t0, t1] h = pattern_over (world n d) n t0 t1 h :=
 Eq.trans (b := fn2 (Di .i64) Dv (pattern_over (world n d) n) [.int .i64 t0, t1] h) (by kernel_rfl) (fn2_eq (Di .i64) Dv _ t0 t1 h)
theorem w_pattern_inRow (n d : Nat) (t0 : AV) (h : AHeap) : world n (d + 1) 75 [t0] h = pattern_inRow (world n d) n t0 h :=
 Eq.trans (b := fn1 Dv (pattern_inRow (world n d) n) [t0] h) (by kernel_rfl) (fn1_eq Dv _ t0 h)
theorem w_pattern_Parse (n d : Nat) (t0 : Bytes) (h : AHeap) : world n (d + 1) 24 [strA t0] h = gcR h (pattern_Parse (world n d) n t0 h) :=
 Eq.trans (b := gcR h (fn1 Ds (pattern_Parse (world n d) n) [strA t0] h)) (by kernel_rfl) (congrArg (gcR h) (fn1_eq Ds _ t0 h))
theorem w_pattern_Parse_1 (n d : Nat) (t0 : AV) (t1 : AV) (t2 : AV) (h : AHeap) : world n (d + 1) 44 [t0, t1, t2] h = pattern_Parse_1 (world n d) n t0 t1 t2 h :=
 Eq.trans (b := fn3 Dv Dv Dv (pattern_Parse_1 (world n d) n) [t0, t1, t2] h) (by kernel_rfl) (fn3_eq Dv Dv Dv _ t0 t1 t2 h)
theorem w_pattern_reader_pattern (n d : Nat) (t0 : AV) (h : AHeap) : world n (d + 1) 45 [t0] h = pattern_reader_pattern (world n d) n t0 h :=
 Eq.trans (b := fn1 Dv (pattern_reader_pattern (world n d) n) [t0] h) (by kernel_rfl) (fn1_eq Dv _ t0 h)
theorem w_pattern_reader_word (n d : Nat) (t0 : AV) (t1 : Bytes) (h : AHeap) : world n (d + 1) 69 [t0, strA t1] h = pattern_reader_word (world n d) n t0 t1 h :=
 Eq.trans (b := fn2 Dv Ds (pattern_reader_word (world n d) n) [t0, strA t1] h) (by kernel_rfl) (fn2_eq Dv Ds _ t0 t1 h)
theorem w_pattern_Quote (n d : Nat) (t0 : Bytes) (h : AHeap) : world n (d + 1) 15 [strA t0] h = gcR h (pattern_Quote (world n d) n t0 h) :=
 Eq.trans (b := gcR h (fn1 Ds (pattern_Quote (world n d) n) [strA t0] h)) (by kernel_rfl) (congrArg (gcR h) (fn1_eq Ds _ t0 h))
theorem w_pattern_writeForm (n d : Nat) (t0 : AV) (t1 : Int) (h : AHeap) : world n (d + 1) 30 [t0, .int .u8 t1] h = pattern_writeForm (world n d) n t0 t1 h :=
 Eq.trans (b := fn2 Dv (Di .u8) (pattern_writeForm (world n d) n) [t0, .int .u8 t1] h) (by kernel_rfl) (fn2_eq Dv (Di .u8) _ t0 t1 h)
theorem w_strings_Builder_WriteString (n d : Nat) (t0 : AV) (t1 : Bytes) (h : AHeap) : world n (d + 1) 52 [t0, strA t1] h = strings_Builder_WriteString (world n d) n t0 t1 h :=
 Eq.trans (b := fn2 Dv Ds (strings_Builder_WriteString (world n d) n) [t0, strA t1] h) (by kernel_rfl) (fn2_eq Dv Ds _ t0 t1 h)
theorem w_ref09_byteAt (n d : Nat) (t0 : Bytes) (t1 : Int) (h : AHeap) : world n (d + 1) 38 [strA t0, .int .i64 t1] h = gcR h (ref09_byteAt (world n d) n t0 t1 h) :=
 Eq.trans (b := gcR h (fn2 Ds (Di .i64) (ref09_byteAt (world n d) n) [strA t0, .int .i64 t1] h)) (by kernel_rfl) (congrArg (gcR h) (fn2_eq Ds (Di .i64) _ t0 t1 h))
theorem w_ref09_Scan (n d : Nat) (t0 : Bytes) (t1 : Int) (h : AHeap) : world n (d + 1) 33 [strA t0, .int .i64 t1] h = gcR h (ref09_Scan (world n d) n t0 t1 h) :=
 Eq.trans (b := gcR h (fn2 Ds (Di .i64) (ref09_Scan (world n d) n) [strA t0, .int .i64 t1] h)) (by kernel_rfl) (congrArg (gcR h) (fn2_eq Ds (Di .i64) _ t0 t1 h))
theorem w_ref09_bad (n d : Nat) (t0 : Int) (h : AHeap) : world n (d + 1) 34 [.int .i64 t0] h = gcR h (ref09_bad (world n d) n t0 h) :=
 Eq.trans (b := gcR h (fn1 (Di .i64) (ref09_bad (world n d) n) [.int .i64 t0] h)) (by kernel_rfl) (congrArg (gcR h) (fn1_eq (Di .i64) _ t0 h))
theorem w_ref09_Tree (n d : Nat) (t0 : List AV) (h : AHeap) : world n (d + 1) 22 [.agg t0] h = gcR h (ref09_Tree (world n d) n t0 h) :=
 Eq.trans (b := gcR h (fn1 Da (ref09_Tree (world n d) n) [.agg t0] h)) (by kernel_rfl) (congrArg (gcR h) (fn1_eq Da _ t0 h))
theorem w_ref09_Parse (n d : Nat) (t0 : Bytes) (h : AHeap) : world n (d + 1) 25 [strA t0] h = gcR h (ref09_Parse (world n d) n t0 h) :=
 Eq.trans (b := gcR h (fn1 Ds (ref09_Parse (world n d) n) [strA t0] h)) (by kernel_rfl) (congrArg (gcR h) (fn1_eq Ds _ t0 h))
theorem w_ref09_word (n d : Nat) (t0 : Int) (h : AHeap) : world n (d + 1) 46 [.int .i64 t0] h = gcR h (ref09_word (world n d) n t0 h) :=
 Eq.trans (b := gcR h (fn1 (Di .i64) (ref09_word (world n d) n) [.int .i64 t0] h)) (by kernel_rfl) (congrArg (gcR h) (fn1_eq (Di .i64) _ t0 h))
theorem w_ref09_literal (n d : Nat) (t0 : Bytes) (h : AHeap) : world n (d + 1) 41 [strA t0] h = gcR h (ref09_literal (world n d) n t0 h) :=
 Eq.trans (b := gcR h (fn1 Ds (ref09_literal (world n d) n) [strA t0] h)) (by kernel_rfl) (congrArg (gcR h) (fn1_eq Ds _ t0 h))
theorem w_ref09_glob (n d : Nat) (t0 : Bytes) (h : AHeap) : world n (d + 1) 42 [strA t0] h = gcR h (ref09_glob (world n d) n t0 h) :=
 Eq.trans (b := gcR h (fn1 Ds (ref09_glob (world n d) n) [strA t0] h)) (by kernel_rfl) (congrArg (gcR h) (fn1_eq Ds _ t0 h))
theorem w_ref09_One (n d : Nat) (t0 : Int) (h : AHeap) : world n (d + 1) 64 [.int .u8 t0] h = gcR h (ref09_One (world n d) n t0 h) :=
 Eq.trans (b := gcR h (fn1 (Di .u8) (ref09_One (world n d) n) [.int .u8 t0] h)) (by kernel_rfl) (congrArg (gcR h) (fn1_eq (Di .u8) _ t0 h))
theorem w_ref09_All (n d : Nat)  (h : AHeap) : world n (d + 1) 66 [] h = gcR h (ref09_All (world n d) n  h) :=
 Eq.trans (b := gcR h (fn0 (ref09_All (world n d) n) [] h)) (by kernel_rfl) (congrArg (gcR h) (fn0_eq  _  h))
theorem w_ref09_Over (n d : Nat) (t0 : Int) (t1 : AV) (h : AHeap) : world n (d + 1) 65 [.int .i64 t0, t1] h = ref09_Over (world n d) n t0 t1 h :=
 Eq.trans (b := fn2 (Di .i64) Dv (ref09_Over (world n d) n) [.int .i64 t0, t1] h) (by kernel_rfl) (fn2_eq (Di .i64) Dv _ t0 t1 h)
theorem w_ref09_alts (n d : Nat) (t0 : Bytes) (t1 : Int) (h : AHeap) : world n (d + 1) 43 [strA t0, .int .i64 t1] h = gcR h (ref09_alts (world n d) n t0 t1 h) :=
 Eq.trans (b := gcR h (fn2 Ds (Di .i64) (ref09_alts (world n d) n) [strA t0, .int .i64 t1] h)) (by kernel_rfl) (congrArg (gcR h) (fn2_eq Ds (Di .i64) _ t0 t1 h))
theorem w_ref09_row (n d : Nat) (t0 : Bytes) (t1 : Int) (h : AHeap) : world n (d + 1) 67 [strA t0, .int .i64 t1] h = gcR h (ref09_row (world n d) n t0 t1 h) :=
 Eq.trans (b := gcR h (fn2 Ds (Di .i64) (ref09_row (world n d) n) [strA t0, .int .i64 t1] h)) (by kernel_rfl) (congrArg (gcR h) (fn2_eq Ds (Di .i64) _ t0 t1 h))
theorem w_ref09_atom (n d : Nat) (t0 : Bytes) (t1 : Int) (h : AHeap) : world n (d + 1) 80 [strA t0, .int .i64 t1] h = gcR h (ref09_atom (world n d) n t0 t1 h) :=
 Eq.trans (b := gcR h (fn2 Ds (Di .i64) (ref09_atom (world n d) n) [strA t0, .int .i64 t1] h)) (by kernel_rfl) (congrArg (gcR h) (fn2_eq Ds (Di .i64) _ t0 t1 h))
theorem w_ref09_class (n d : Nat) (t0 : Bytes) (t1 : Int) (h : AHeap) : world n (d + 1) 86 [strA t0, .int .i64 t1] h = gcR h (ref09_class (world n d) n t0 t1 h) :=
 Eq.trans (b := gcR h (fn2 Ds (Di .i64) (ref09_class (world n d) n) [strA t0, .int .i64 t1] h)) (by kernel_rfl) (congrArg (gcR h) (fn2_eq Ds (Di .i64) _ t0 t1 h))
theorem w_ref09_member (n d : Nat) (t0 : Bytes) (t1 : Int) (h : AHeap) : world n (d + 1) 89 [strA t0, .int .i64 t1] h = gcR h (ref09_member (world n d) n t0 t1 h) :=
 Eq.trans (b := gcR h (fn2 Ds (Di .i64) (ref09_member (world n d) n) [strA t0, .int .i64 t1] h)) (by kernel_rfl) (congrArg (gcR h) (fn2_eq Ds (Di .i64) _ t0 t1 h))
theorem w_law09_long (n d : Nat) (t0 : Int) (h : AHeap) : world n (d + 1) 14 [.int .i64 t0] h = gcR h (law09_long (world n d) n t0 h) :=
 Eq.trans (b := gcR h (fn1 (Di .i64) (law09_long (world n d) n) [.int .i64 t0] h)) (by kernel_rfl) (congrArg (gcR h) (fn1_eq (Di .i64) _ t0 h))
theorem lcp_step {x w : Bytes} {i : Nat} (h1 : i < x.length) (h2 : i < w.length) : lcpN (x.drop i) (w.drop i) = if x[i] = w[i] then lcpN (x.drop (i + 1)) (w.drop (i + 1)) + 1 else 0 := by
 rw [List.drop_eq_getElem_cons h1, List.drop_eq_getElem_cons h2, lcpN]
section
variable {n d p : Nat} {h : AHeap} {u : Bytes} {Q : ARes → AHeap → Prop}
theorem bat_loop1 {x : Bytes} (hx : x.length ≤ 100) (hu : u.length ≤ 1000000) (hp : p ≤ u.length) {k25 : Int → AHeap → R} (hk : Wp (k25 (lcpN x (u.drop p) : Int) h) Q) : ∀ (f i : Nat), x.length < f + i → i ≤ x.length → lcpN x (u.drop p) = i + lcpN (x.drop i) ((u.drop p).drop i) → Wp (ref09_byteAt_L1 u (p : Int) x k25 f (i : Int) h) Q
 | 0, i, h1, h2, _ => by omega
 | f + 1, i, h1, h2, hl => by
  rw [ref09_byteAt_L1_s]
  unfold ref09_byteAt_L1b
  have lu := lenS_nat u
  have lx := lenS_nat x
  have lw : (u.drop p).length = u.length - p := List.length_drop
  by_cases c1 : i < x.length
  case neg =>
   have : lcpN (x.drop i) ((u.drop p).drop i) = 0 := by rw [List.drop_eq_nil_of_le (by omega)]; rfl
   rw [this, Nat.add_zero] at hl
   rw [hl] at hk
   repeat (first | (with_reducible first | refine Wp.join1 (fun _ _ => ?_) | refine Wp.l ?_) | ((with_reducible refine Wp.iff ?_ ?_); first | (with_reducible rfl) | ((with_reducible apply decide_eq_false); omega)) | (with_reducible refine Wp.go1 (by assumption) ?_))
   exact hk
  by_cases c2 : p + i < u.length
  case neg =>
   have : lcpN (x.drop i) ((u.drop p).drop i) = 0 := by
    have := (lcpN_le (x.drop i) ((u.drop p).drop i)).2
    rw [List.length_drop] at this
    omega
   rw [this, Nat.add_zero] at hl
   rw [hl] at hk
   repeat (first | (with_reducible refine Wp.join1 (fun _ _ => ?_)) | ((with_reducible refine Wp.lettw ?_ ?_ ?_); omega; omega) | (with_reducible refine Wp.l ?_) | ((with_reducible refine Wp.ift ?_ ?_; apply decide_eq_true); omega) | ((with_reducible refine Wp.iff ?_ ?_); first | (with_reducible rfl) | ((with_reducible apply decide_eq_false); omega)) | (with_reducible refine Wp.go1 (by assumption) ?_))
   exact hk
  have st := lcp_step (x := x) (w := u.drop p) (i := i) c1 (by omega)
  have e1 : idxS u ((p : Int) + (i : Int)) = some ((u[p + i]).toNat : Int) := by rw [← Int.natCast_add]; exact idxS_nat c2
  have e2 : idxS x (i : Int) = some ((x[i]).toNat : Int) := idxS_nat c1
  have e3 : (u.drop p)[i]'(by omega) = u[p + i] := by rw [List.getElem_drop]
  rw [e3] at st
  by_cases c3 : x[i] = u[p + i]
  ·rw [if_pos c3] at st
   have c4 : (u[p + i]).toNat = (x[i]).toNat := by rw [c3]
   repeat (first | (with_reducible refine Wp.join1 (fun _ _ => ?_)) | ((with_reducible refine Wp.lettw ?_ ?_ ?_); omega; omega) | (with_reducible first | refine Wp.l ?_ | (apply Wp.o; first | exact e1 | exact e2)) | ((with_reducible refine Wp.ift ?_ ?_); ((with_reducible first | apply decide_eq_true | apply beq_t); omega)) | (with_reducible refine Wp.go1 (by assumption) ?_))
   rw [show (i : Int) + 1 = ((i + 1 : Nat) : Int) by omega]
   exact bat_loop1 hx hu hp hk f (i + 1) (by omega) (by omega) (by omega)
  ·rw [if_neg c3] at st
   have c4 : (u[p + i]).toNat ≠ (x[i]).toNat := fun e => c3 (UInt8.toNat_inj.1 e.symm)
   rw [st, Nat.add_zero] at hl
   rw [hl] at hk
   repeat (first | (with_reducible refine Wp.join1 (fun _ _ => ?_)) | ((with_reducible refine Wp.lettw ?_ ?_ ?_); omega; omega) | (with_reducible first | refine Wp.l ?_ | (apply Wp.o; first | exact e1 | exact e2)) | ((with_reducible refine Wp.ift ?_ ?_); ((with_reducible first | apply decide_eq_true | apply beq_t); omega)) | ((with_reducible refine Wp.iff ?_ ?_; apply beq_f); omega) | (with_reducible refine Wp.go1 (by assumption) ?_))
   exact hk
theorem sign_w {c : Nat} (hc : c < 256) (H : AHeap) : world n (d + 1) 32 [.int .u8 (c : Int)] H = some (.ret (strA (signB c)), H) := (w_signF n d _ H).trans (signF_eq hc H)
theorem signB_len (c : Nat) : (signB c).length ≤ 4 ∧ 1 ≤ (signB c).length := by
 rcases cls c with ⟨e, hs, _⟩ | ⟨hs, _, _, _⟩ | ⟨hs, _⟩ <;> rw [hs] <;> simp
theorem bat_ok (hu : u.length ≤ 1000000) (hp : p ≤ u.length) (hn : 100 < n) {c k : Nat} (hF : formW (u.drop p) = .ok c k) {k6 : Int → AHeap → R} (hQ : Q (.ret (.tup [.int .u8 (c : Int), .int .i64 ((p + k : Nat) : Int), .bool true])) h) :
  ∀ (f i : Nat) (far : Int), c < f + i → i ≤ c → Wp (ref09_byteAt_L0 (world n (d + 1)) n u (p : Int) k6 f far (i : Int) h) Q
 | 0, i, far, h1, h2 => by omega
 | f + 1, i, far, h1, h2 => by
  obtain ⟨hc, hk, r, hr⟩ := formW_ok hF
  rw [ref09_byteAt_L0_s]
  unfold ref09_byteAt_L0b
  have hs := sign_w (n := n) (d := d) (c := i) (by omega) h
  have hlen := signB_len i
  have lx := lenS_nat (signB i)
  have hle := lcpN_le (signB i) (u.drop p)
  rw [List.length_drop] at hle
  repeat (first | (with_reducible refine Wp.join1 (fun _ _ => ?_)) | ((with_reducible refine Wp.lettu8 ?_ ?_ ?_); omega; omega) | (with_reducible first | refine Wp.l ?_ | (apply Wp.o; exact avStr_str _)) | ((with_reducible refine Wp.ift ?_ ?_; apply decide_eq_true); omega) | (with_reducible apply Wp.callN; assumption))
  rename_i k25 hk25
  refine bat_loop1 (by omega) hu hp ?_ n 0 (by omega) (by omega) (by simp)
  by_cases hm : lcpN (signB i) (u.drop p) = (signB i).length
  ·obtain ⟨r', hr'⟩ := lcpN_full _ _ hm
   have h3 := formW_sign (c := i) (by omega) r'
   rw [← hr', hF] at h3
   simp only [FR.ok.injEq] at h3
   obtain ⟨rfl, rfl⟩ := h3
   repeat (first | ((with_reducible first | refine Wp.lettw ?_ ?_ ?_ | refine Wp.lettu8 ?_ ?_ ?_); omega; omega) | (with_reducible refine Wp.l ?_) | ((with_reducible refine Wp.ift ?_ ?_; apply beq_t); omega) | (with_reducible refine Wp.go1 (by assumption) ?_))
   refine Wp.ret ?_
   rw [hm, ← Int.natCast_add]
   exact hQ
  ·have hic : i ≠ c := by
    rintro rfl
    exact hm (by rw [hr]; exact lcpN_append _ _)
   repeat (first | (with_reducible refine Wp.join1 (fun _ _ => ?_)) | ((with_reducible refine Wp.lettw ?_ ?_ ?_); omega; omega) | (with_reducible refine Wp.l ?_) | ((with_reducible refine Wp.iff ?_ ?_); ((with_reducible first | apply decide_eq_false | apply beq_f); omega)) | (with_reducible refine Wp.go1 (by assumption) ?_))
   refine Wp.ifc (fun _ => ?_) (fun _ => ?_)
   ·repeat (first | ((with_reducible refine Wp.lettw ?_ ?_ ?_); omega; omega) | (with_reducible refine Wp.go1 (by assumption) ?_))
    rw [show (i : Int) + 1 = ((i + 1 : Nat) : Int) by omega]
    exact bat_ok hu hp hn hF hQ f (i + 1) _ (by omega) (by omega)
   ·repeat (first | ((with_reducible refine Wp.lettw ?_ ?_ ?_); omega; omega) | (with_reducible refine Wp.go1 (by assumption) ?_))
    rw [show (i : Int) + 1 = ((i + 1 : Nat) : Int) by omega]
    exact bat_ok hu hp hn hF hQ f (i + 1) _ (by omega) (by omega)
theorem bat_bad (hu : u.length ≤ 1000000) (hp : p ≤ u.length) (hn : 100 < n) {k : Nat} (hF : formW (u.drop p) = .bad k) {k6 : Int → AHeap → R} (hk : Wp (k6 ((p + k : Nat) : Int) h) Q) :
  ∀ (f i : Nat) (far : Nat), 256 < f + i → i ≤ 256 → far ≤ p + k → (far = p + k ∨ ∃ c, i ≤ c ∧ c < 256 ∧ lcpN (signB c) (u.drop p) = k) → Wp (ref09_byteAt_L0 (world n (d + 1)) n u (p : Int) k6 f (far : Int) (i : Int) h) Q
 | 0, i, far, h1, h2, _, _ => by omega
 | f + 1, i, far, h1, h2, hf, hex => by
  obtain ⟨hb1, _⟩ := formW_bad hF
  rw [ref09_byteAt_L0_s]
  unfold ref09_byteAt_L0b
  by_cases hi : i < 256
  ·have hs := sign_w (n := n) (d := d) (c := i) hi h
   have hlen := signB_len i
   have lx := lenS_nat (signB i)
   have hle := lcpN_le (signB i) (u.drop p)
   rw [List.length_drop] at hle
   obtain ⟨hb2, hb3⟩ := hb1 i hi
   repeat (first | (with_reducible refine Wp.join1 (fun _ _ => ?_)) | ((with_reducible refine Wp.lettu8 ?_ ?_ ?_); omega; omega) | (with_reducible first | refine Wp.l ?_ | (apply Wp.o; exact avStr_str _)) | ((with_reducible refine Wp.ift ?_ ?_; apply decide_eq_true); omega) | (with_reducible apply Wp.callN; assumption))
   rename_i k25 hk25
   refine bat_loop1 (by omega) hu hp ?_ n 0 (by omega) (by omega) (by simp)
   repeat (first | (with_reducible refine Wp.join1 (fun _ _ => ?_)) | ((with_reducible refine Wp.lettw ?_ ?_ ?_); omega; omega) | (with_reducible refine Wp.l ?_) | ((with_reducible refine Wp.iff ?_ ?_); ((with_reducible first | apply decide_eq_false | apply beq_f); omega)) | (with_reducible refine Wp.go1 (by assumption) ?_))
   by_cases hg : (p : Int) + (lcpN (signB i) (u.drop p) : Int) > (far : Int)
   ·repeat (first | ((with_reducible refine Wp.lettw ?_ ?_ ?_); omega; omega) | ((with_reducible refine Wp.ift ?_ ?_; apply decide_eq_true); omega) | (with_reducible refine Wp.go1 (by assumption) ?_))
    rw [show (i : Int) + 1 = ((i + 1 : Nat) : Int) by omega, ← Int.natCast_add]
    refine bat_bad hu hp hn hF hk f (i + 1) _ (by omega) (by omega) (by omega) ?_
    rcases hex with hex | ⟨c, c1, c2, c3⟩
    ·omega
    ·by_cases hc : c = i
     ·subst hc
      exact .inl (by omega)
     ·exact .inr ⟨c, by omega, c2, c3⟩
   ·repeat (first | ((with_reducible refine Wp.lettw ?_ ?_ ?_); omega; omega) | ((with_reducible refine Wp.iff ?_ ?_; apply decide_eq_false); omega) | (with_reducible refine Wp.go1 (by assumption) ?_))
    rw [show (i : Int) + 1 = ((i + 1 : Nat) : Int) by omega]
    refine bat_bad hu hp hn hF hk f (i + 1) _ (by omega) (by omega) hf ?_
    rcases hex with hex | ⟨c, c1, c2, c3⟩
    ·exact .inl hex
    ·by_cases hc : c = i
     ·subst hc
      exact .inl (by omega)
     ·exact .inr ⟨c, by omega, c2, c3⟩
  ·have e : far = p + k := by
    rcases hex with hex | ⟨c, c1, c2, _⟩
    ·exact hex
    ·omega
   rw [← e] at hk
   repeat (first | (with_reducible refine Wp.l ?_) | ((with_reducible refine Wp.iff ?_ ?_; apply decide_eq_false); omega))
   exact hk
def batV : FR → AV
 | .ok c q => .tup [.int .u8 (c : Int), .int .i64 (q : Int), .bool true]
 | .bad q => .tup [.int .u8 0, .int .i64 (q : Int), .bool false]
theorem byteAt_w (hu : u.length ≤ 1000000) (hp : p ≤ u.length) (hn : 300 < n) : world n (d + 2) 38 [strA u, .int .i64 (p : Int)] h = some (.ret (batV (formAt u p)), h) := by
 rw [w_ref09_byteAt]
 refine (congrArg (gcR h) ?_).trans gcR_self
 apply Wp.eq
 unfold ref09_byteAt
 rw [formAt_W]
 repeat ((with_reducible refine Wp.join1 (fun _ _ => ?_)))
 rename_i k6 hk6
 cases hF : formW (u.drop p) with
 | ok c k =>
  have hc := (formW_ok hF).1
  exact bat_ok hu hp (by omega) hF ⟨rfl, rfl⟩ n 0 _ (by omega) (by omega)
 | bad k =>
  refine bat_bad hu hp (by omega) hF ?_ n 0 p (by omega) (by omega) (by omega) ?_
  ·rw [hk6]
   exact Wp.ret ⟨rfl, rfl⟩
  ·rcases (formW_bad hF).2 with h0 | ⟨c, c1, c2⟩
   ·exact .inl (by omega)
   ·exact .inr ⟨c, by omega, c1, c2⟩
end
theorem Wp.panK {Q : ARes → AHeap → Prop} {h : AHeap} {t : TypeId} {v : AV} (hq : Q (.panic (.ifc t v)) h) : Wp (panK (.ifc t v) h) Q := ⟨_, _, rfl, hq⟩
noncomputable def rdP (u : Bytes) (p : Nat) : List AV := [strA u, .int .i64 (p : Int)]
abbrev Rd (h : AHeap) (b : Nat) (u : Bytes) (p : Nat) : Prop := RowH h b 70 (rdP u p)
def PanA (e : Int) (q : Nat) : AV := .ifc 91 (.agg [.int .i64 e, .int .i64 (q : Int)])
theorem bldWrong (e q : Int) : bldS Try.prog 91 [(0, .agg [.int .i64 e, .int .i64 q])] = some [.int .i64 e, .int .i64 q] := by kernel_rfl
def Step (b : Nat) (u : Bytes) (h : AHeap) (x : R) : Except (Int × Nat) (AV × Nat) → Prop
 | .ok (v, p) => ∃ h', x = some (.ret v, h') ∧ Rd h' b u p ∧ Tch [b] h h'
 | .error (e, q) => ∃ h' p, x = some (.panic (PanA e q), h') ∧ Rd h' b u p ∧ Tch [b] h h'
section
variable {n d b p : Nat} {h : AHeap} {u : Bytes} {Q : ARes → AHeap → Prop}
theorem ended_r (k : Rd h b u p) : world n (d + 1) 74 [.ptr b 0] h = some (.ret (.bool (decide (p = u.length))), h) := by
 apply Wp.eq
 rw [w_pattern_reader_ended]
 unfold pattern_reader_ended
 have ll := lenS_nat u
 repeat (first | (with_reducible refine Wp.l ?_) | ((with_reducible apply Wp.o); first | (with_reducible first | exact avInt_int _ _ | exact avStr_str _ | exact nilC_ptr _ _ | exact fldP_ptr _ _ _) | ((with_reducible apply RowH.cell'); (with_reducible assumption); rfl)))
 refine Wp.ret ⟨?_, rfl⟩
 by_cases hp : p = u.length
 ·rw [beq_t (by omega), decide_eq_true hp]
 ·rw [beq_f (by omega), decide_eq_false hp]
theorem refuse_r (e : Int) (q : Nat) : world n (d + 1) 57 [.int .i64 e, .int .i64 (q : Int)] h = some (.panic (PanA e q), h) := by
 rw [w_pattern_refuse]
 refine (congrArg (gcR h) ?_).trans gcR_self
 unfold pattern_refuse
 rw [bldWrong, obind_val]
 rfl
theorem refuseLast_r (k : Rd h b u (p + 1)) (hp : p + 1 ≤ u.length) (hu : u.length ≤ 1000000) : world n (d + 2) 72 [.ptr b 0] h = some (.panic (PanA 6 p), h) := by
 apply Wp.eq
 rw [w_pattern_reader_refuseLast]
 unfold pattern_reader_refuseLast
 have k0 : RowH h b 70 [strA u, .int .i64 ((p + 1 : Nat) : Int)] := k
 clear k
 have hr := refuse_r (n := n) (d := d) (h := h) 6 p
 rw [show (p : Int) = ((p + 1 : Nat) : Int) - 1 by omega] at hr
 repeat (first | ((with_reducible refine Wp.lettw ?_ ?_ ?_); omega; omega) | ((with_reducible apply Wp.o); first | (with_reducible first | exact avInt_int _ _ | exact nilC_ptr _ _ | exact fldP_ptr _ _ _) | ((with_reducible apply RowH.cell'); (with_reducible assumption); rfl)))
 exact Wp.callP hr ⟨rfl, rfl⟩
theorem sees_r (k : Rd h b u p) (hp : p ≤ u.length) (c : Nat) : world n (d + 2) 68 [.ptr b 0, .int .u8 (c : Int)] h = some (.ret (.bool (decide (at? u p = some c))), h) := by
 apply Wp.eq
 rw [w_pattern_reader_sees]
 unfold pattern_reader_sees
 have he := ended_r (n := n) (d := d) k
 by_cases hl : p = u.length
 ·rw [decide_eq_true hl] at he
  rw [at?_ge (by omega)]
  repeat (with_reducible first | refine Wp.join1 (fun _ _ => ?_) | refine Wp.l ?_ | (apply Wp.o; exact avBool_bool _) | (refine Wp.iff ?_ ?_; exact Bool.not_true) | (apply Wp.callN; assumption) | refine Wp.go1 (by assumption) ?_)
  exact Wp.ret ⟨rfl, rfl⟩
 ·rw [decide_eq_false hl] at he
  have hx := idxS_nat (l := u) (i := p) (by omega)
  rw [at?_lt (by omega)]
  repeat (first | (with_reducible first | refine Wp.join1 (fun _ _ => ?_) | refine Wp.l ?_) | ((with_reducible apply Wp.o); first | (with_reducible first | exact hx | exact avInt_int _ _ | exact avBool_bool _ | exact avStr_str _ | exact nilC_ptr _ _ | exact fldP_ptr _ _ _) | ((with_reducible apply RowH.cell'); (with_reducible assumption); rfl)) | (with_reducible first | (refine Wp.ift ?_ ?_; exact Bool.not_false) | (apply Wp.callN; assumption) | refine Wp.go1 (by assumption) ?_))
  refine Wp.ret ⟨?_, rfl⟩
  by_cases hc : (u[p]'(by omega)).toNat = c
  ·rw [beq_t (by omega), decide_eq_true (by rw [hc])]
  ·rw [beq_f (by omega), decide_eq_false (fun hh => hc (by simpa using hh))]
theorem skips_r (k : Rd h b u p) (hb : b < h.next) (hp : p ≤ u.length) (hu : u.length ≤ 1000000) (c : Nat) : Step b u h (world n (d + 3) 55 [.ptr b 0, .int .u8 (c : Int)] h) (.ok (.bool (decide (at? u p = some c)), if at? u p = some c then p + 1 else p)) := by
 apply Wp.ex
 rw [w_pattern_reader_skips]
 unfold pattern_reader_skips
 have hs := sees_r (n := n) (d := d) k hp c
 have Mx := Mem.one k hb
 by_cases hc : at? u p = some c
 ·rw [decide_eq_true hc] at hs ⊢
  rw [if_pos hc]
  repeat (first | (with_reducible apply Wp.o; first | exact avInt_int _ _ | exact avBool_bool _ | exact nilC_ptr _ _ | exact fldP_ptr _ _ _) | ((with_reducible apply Wp.ld0 Mx); rfl) | ((with_reducible apply Wp.ms0 Mx); exact Nat.le_of_ble_eq_true rfl; rfl; clear Mx; intro _ Mx) | ((with_reducible refine Wp.lettw ?_ ?_ ?_); omega; omega) | (with_reducible first | refine Wp.l ?_ | (refine Wp.iff ?_ ?_; exact Bool.not_true) | (apply Wp.callN; assumption)))
  have e : (rdP u p).set (0 + 1) (.int .i64 ((p : Int) + 1)) = rdP u (p + 1) := by
   rw [show (p : Int) + 1 = ((p + 1 : Nat) : Int) by omega]
   rfl
  rw [e] at Mx
  exact Wp.ret ⟨rfl, Mx.at0.1, Mx.tch⟩
 ·rw [decide_eq_false hc] at hs ⊢
  rw [if_neg hc]
  repeat (with_reducible first | refine Wp.l ?_ | (apply Wp.o; exact avBool_bool _) | (refine Wp.ift ?_ ?_; exact Bool.not_false) | (apply Wp.callN; assumption))
  exact Wp.ret ⟨rfl, k, Tch.refl _ _⟩
theorem next_r (k : Rd h b u p) (hb : b < h.next) (hp : p ≤ u.length) (hu : u.length ≤ 1000000) : Step b u h (world n (d + 2) 71 [.ptr b 0] h) (match at? u p with
  | some c => .ok (.int .u8 (c : Int), p + 1)
  | none => .error (6, p)) := by
 have he := ended_r (n := n) (d := d) k
 by_cases hl : p = u.length
 ·rw [at?_ge (by omega)]
  rw [decide_eq_true hl] at he
  refine ⟨h, p, ?_, k, Tch.refl _ _⟩
  have hr := refuse_r (n := n) (d := d) (h := h) 6 p
  have : Wp (world n (d + 2) 71 [.ptr b 0] h) fun r h' => r = .panic (PanA 6 p) ∧ h' = h := by
   rw [w_pattern_reader_next]
   unfold pattern_reader_next
   repeat (first | (with_reducible refine Wp.join0 (fun _ _ => ?_)) | ((with_reducible apply Wp.o); first | (with_reducible first | exact avInt_int _ _ | exact avBool_bool _ | exact nilC_ptr _ _ | exact fldP_ptr _ _ _) | ((with_reducible apply RowH.cell'); (with_reducible assumption); rfl)) | (with_reducible refine Wp.ift ?_ ?_; rfl) | ((with_reducible first | apply Wp.callN | apply Wp.callK); (with_reducible assumption)))
   exact Wp.callP hr ⟨rfl, rfl⟩
  exact this.eq
 ·rw [decide_eq_false hl] at he
  rw [at?_lt (by omega)]
  show ∃ h', _ ∧ _
  apply Wp.ex
  rw [w_pattern_reader_next]
  unfold pattern_reader_next
  have Mx := Mem.one k hb
  have hx := idxS_nat (l := u) (i := p) (by omega)
  repeat (first | (with_reducible apply Wp.o; first | exact avInt_int _ _ | exact avBool_bool _ | exact avStr_str _ | exact nilC_ptr _ _ | exact fldP_ptr _ _ _) | ((with_reducible apply Wp.ld0 Mx); rfl) | ((with_reducible apply Wp.ms0 Mx); exact Nat.le_of_ble_eq_true rfl; rfl; clear Mx; intro _ Mx) | (with_reducible refine Wp.join0 (fun _ _ => ?_)) | ((with_reducible refine Wp.lettw ?_ ?_ ?_); omega; omega) | (with_reducible first | (refine Wp.iff ?_ ?_; rfl) | (apply Wp.callN; assumption) | refine Wp.go0 (by assumption) ?_))
  have e : (rdP u p).set (0 + 1) (.int .i64 ((p : Int) + 1)) = rdP u (p + 1) := by
   rw [show (p : Int) + 1 = ((p + 1 : Nat) : Int) by omega]
   rfl
  rw [e] at Mx
  have e2 : ((p : Int) + 1) - 1 = (p : Int) := by omega
  rw [e2]
  repeat (((with_reducible apply Wp.o); (with_reducible exact hx)))
  exact Wp.ret ⟨rfl, Mx.at0.1, Mx.tch⟩
theorem plain_w (c : Nat) : world n (d + 1) 51 [.int .u8 (c : Int)] h = some (.ret (.bool (plainB c)), h) := by
 rw [w_pattern_plain]
 refine (congrArg (gcR h) ?_).trans gcR_self
 apply Wp.eq
 unfold pattern_plain plainB
 by_cases h1 : 32 ≤ c
 ·rw [decide_eq_true h1, Bool.true_and]
  repeat (first | (with_reducible first | refine Wp.join1 (fun _ _ => ?_) | refine Wp.l ?_) | ((with_reducible refine Wp.ift ?_ ?_; apply decide_eq_true); omega) | (with_reducible refine Wp.go1 (by assumption) ?_))
  refine Wp.ret ⟨?_, rfl⟩
  by_cases h2 : c ≤ 126
  ·rw [decide_eq_true h2, decide_eq_true (by omega)]
  ·rw [decide_eq_false h2, decide_eq_false (by omega)]
 ·rw [decide_eq_false h1, Bool.false_and]
  repeat (first | (with_reducible first | refine Wp.join1 (fun _ _ => ?_) | refine Wp.l ?_) | ((with_reducible refine Wp.iff ?_ ?_; apply decide_eq_false); omega) | (with_reducible refine Wp.go1 (by assumption) ?_))
  exact Wp.ret ⟨rfl, rfl⟩
theorem short_w (c : Nat) : world n (d + 1) 50 [.int .u8 (c : Int)] h = some (.ret (.int .u8 (shortB c : Int)), h) := by
 rw [w_pattern_short]
 refine (congrArg (gcR h) ?_).trans gcR_self
 apply Wp.eq
 unfold pattern_short shortB
 by_cases h1 : c = 34
 ·rw [if_pos (.inl h1)]
  repeat (first | (with_reducible first | refine Wp.join1 (fun _ _ => ?_) | refine Wp.l ?_) | ((with_reducible refine Wp.ift ?_ ?_); first | (with_reducible rfl) | ((with_reducible apply beq_t); omega)) | (with_reducible refine Wp.go1 (by assumption) ?_))
  exact Wp.ret ⟨rfl, rfl⟩
 by_cases h2 : c = 92
 ·rw [if_pos (.inr h2)]
  have q : ((c : Int) == 92) = true := beq_t (by omega)
  repeat (first | (with_reducible first | refine Wp.join1 (fun _ _ => ?_) | refine Wp.l ?_ | (refine Wp.ift ?_ ?_; assumption)) | ((with_reducible refine Wp.iff ?_ ?_; apply beq_f); omega) | (with_reducible refine Wp.go1 (by assumption) ?_))
  exact Wp.ret ⟨rfl, rfl⟩
 have q : ((c : Int) == 92) = false := beq_f (by omega)
 rw [if_neg (by omega)]
 by_cases h3 : c = 10
 ·rw [if_pos h3]
  repeat (first | (with_reducible first | refine Wp.join1 (fun _ _ => ?_) | refine Wp.l ?_) | ((with_reducible refine Wp.ift ?_ ?_; apply beq_t); omega) | ((with_reducible refine Wp.iff ?_ ?_); first | (with_reducible assumption) | ((with_reducible apply beq_f); omega)) | (with_reducible refine Wp.go1 (by assumption) ?_))
  exact Wp.ret ⟨rfl, rfl⟩
 rw [if_neg h3]
 by_cases h4 : c = 13
 ·rw [if_pos h4]
  repeat (first | (with_reducible first | refine Wp.join1 (fun _ _ => ?_) | refine Wp.l ?_) | ((with_reducible refine Wp.ift ?_ ?_; apply beq_t); omega) | ((with_reducible refine Wp.iff ?_ ?_); first | (with_reducible assumption) | ((with_reducible apply beq_f); omega)) | (with_reducible refine Wp.go1 (by assumption) ?_))
  exact Wp.ret ⟨rfl, rfl⟩
 rw [if_neg h4]
 by_cases h5 : c = 9
 ·rw [if_pos h5]
  repeat (first | (with_reducible first | refine Wp.join1 (fun _ _ => ?_) | refine Wp.l ?_) | ((with_reducible refine Wp.ift ?_ ?_; apply beq_t); omega) | ((with_reducible refine Wp.iff ?_ ?_); first | (with_reducible assumption) | ((with_reducible apply beq_f); omega)) | (with_reducible refine Wp.go1 (by assumption) ?_))
  exact Wp.ret ⟨rfl, rfl⟩
 rw [if_neg h5]
 repeat (first | (with_reducible first | refine Wp.join1 (fun _ _ => ?_) | refine Wp.l ?_) | ((with_reducible refine Wp.iff ?_ ?_); first | (with_reducible assumption) | ((with_reducible apply beq_f); omega)) | (with_reducible refine Wp.go1 (by assumption) ?_))
 exact Wp.ret ⟨rfl, rfl⟩
theorem byDigits_w (c : Nat) : world n (d + 2) 83 [.int .u8 (c : Int)] h = some (.ret (.bool (byD c)), h) := by
 rw [w_pattern_byDigits]
 refine (congrArg (gcR h) ?_).trans gcR_self
 apply Wp.eq
 unfold pattern_byDigits byD
 have e1 := short_w (n := n) (d := d) (h := h) c
 have e2 := plain_w (n := n) (d := d) (h := h) c
 by_cases h1 : shortB c = 0
 ·rw [decide_eq_true h1, Bool.true_and]
  repeat (first | (with_reducible first | refine Wp.join1 (fun _ _ => ?_) | refine Wp.l ?_ | (apply Wp.o; first | exact avInt_int _ _ | exact avBool_bool _)) | ((with_reducible refine Wp.ift ?_ ?_; apply beq_t); omega) | (with_reducible first | (apply Wp.callN; assumption) | refine Wp.go1 (by assumption) ?_))
  exact Wp.ret ⟨rfl, rfl⟩
 ·rw [decide_eq_false h1, Bool.false_and]
  repeat (first | (with_reducible first | refine Wp.join1 (fun _ _ => ?_) | refine Wp.l ?_ | (apply Wp.o; exact avInt_int _ _)) | ((with_reducible refine Wp.iff ?_ ?_; apply beq_f); omega) | (with_reducible first | (apply Wp.callN; assumption) | refine Wp.go1 (by assumption) ?_))
  exact Wp.ret ⟨rfl, rfl⟩
end
theorem Step.ok_of {b p : Nat} {u : Bytes} {h : AHeap} {x : R} {v : AV} (k : Wp x fun r h' => r = .ret v ∧ Rd h' b u p ∧ Tch [b] h h') : Step b u h x (.ok (v, p)) := k.ex
theorem Step.err_of {b q : Nat} {e : Int} {u : Bytes} {h : AHeap} {x : R} (k : Wp x fun r h' => r = .panic (PanA e q) ∧ ∃ p, Rd h' b u p ∧ Tch [b] h h') : Step b u h x (.error (e, q)) := by
 obtain ⟨_, h', e1, rfl, p, k1, k2⟩ := k
 exact ⟨h', p, e1, k1, k2⟩
theorem Wp.stepK {b : Nat} {u : Bytes} {h : AHeap} {x : R} {k : AV → AHeap → R} {Q : ARes → AHeap → Prop} {v : AV} {p : Nat} (hx : Step b u h x (.ok (v, p))) (hk : ∀ h', Rd h' b u p → Tch [b] h h' → Wp (k v h') Q) : Wp (callK x k) Q := by
 obtain ⟨h', e, k1, k2⟩ := hx
 exact Wp.callK e (hk h' k1 k2)
theorem Wp.stepN {b : Nat} {u : Bytes} {h : AHeap} {x : R} {k : AV → AHeap → R} {Q : ARes → AHeap → Prop} {v : AV} {p : Nat} (hx : Step b u h x (.ok (v, p))) (hk : ∀ h', Rd h' b u p → Tch [b] h h' → Wp (k v h') Q) : Wp (callN x k) Q := by
 obtain ⟨h', e, k1, k2⟩ := hx
 exact Wp.callN e (hk h' k1 k2)
theorem Wp.stepE {b q : Nat} {e : Int} {u : Bytes} {h : AHeap} {x : R} {k : AV → AHeap → R} {Q : ARes → AHeap → Prop} (hx : Step b u h x (.error (e, q))) (hk : ∀ h' p, Rd h' b u p → Tch [b] h h' → Q (.panic (PanA e q)) h') : Wp (callK x k) Q := by
 obtain ⟨h', p, e1, k1, k2⟩ := hx
 exact Wp.callP e1 (hk h' p k1 k2)
theorem lt_tch {S : List Nat} {h h' : AHeap} {b : Nat} (t : Tch S h h') (hb : b < h.next) : b < h'.next := Nat.lt_of_lt_of_le hb t.1
theorem or4 {v c : Nat} (h1 : v < 16) (h2 : c < 16) : orI .u8 ((v : Int) * 16) (c : Int) = ((v * 16 + c : Nat) : Int) := by
 show IntKind.u8.wrap (((BitVec.ofInt 8 ((v : Int) * 16)) ||| (BitVec.ofInt 8 (c : Int))).toNat : Int) = _
 have e1 : (BitVec.ofInt 8 ((v : Int) * 16)) = BitVec.ofNat 8 (v * 16) := by
  rw [show ((v : Int) * 16) = ((v * 16 : Nat) : Int) by omega]
  exact BitVec.ofInt_natCast ..
 have e2 : (BitVec.ofInt 8 (c : Int)) = BitVec.ofNat 8 c := BitVec.ofInt_natCast ..
 rw [e1, e2, BitVec.toNat_or, BitVec.toNat_ofNat, BitVec.toNat_ofNat, Nat.mod_eq_of_lt (by omega), Nat.mod_eq_of_lt (by omega)]
 have e3 : v * 16 ||| c = v * 16 + c := by
  have := Nat.shiftLeft_add_eq_or_of_lt (i := 4) (b := c) (by omega) v
  rw [Nat.shiftLeft_eq] at this
  exact this.symm
 rw [e3, wrap_u8_mod, Int.emod_eq_of_lt (by omega) (by omega)]
theorem shl4 {v : Nat} (h1 : v < 16) : shlI .u8 (v : Int) 4 = some ((v : Int) * 16) := by
 have : shlI .u8 (v : Int) 4 = some (IntKind.u8.wrap ((v : Int) * 16)) := rfl
 rw [this, wrap_u8_mod, Int.emod_eq_of_lt (by omega) (by omega)]
theorem mayB_any : ∀ hi : Fin 16, mayB hi.val = (List.range 16).any fun lo => byD (hi.val * 16 + lo) := by decide
section
variable {n d b p : Nat} {h : AHeap} {u : Bytes} {Q : ARes → AHeap → Prop}
theorem mb_loop {hi : Nat} (hh : hi < 16) {k5 : AHeap → R} (hk : k5 = fun h_6 => some (.ret (.bool false), h_6)) : ∀ (f i : Nat), 16 < f + i → i ≤ 16 → (∀ j, j < i → byD (hi * 16 + j) = false) → Wp (pattern_mayBegin_L0 (world n (d + 2)) ((hi : Int) * 16) k5 f (i : Int) h) fun r h' => r = .ret (.bool (mayB hi)) ∧ h' = h
 | 0, i, h1, h2, _ => by omega
 | f + 1, i, h1, h2, hj => by
  rw [pattern_mayBegin_L0_s]
  unfold pattern_mayBegin_L0b
  have ha := mayB_any ⟨hi, hh⟩
  by_cases hi16 : i < 16
  ·have hb := byDigits_w (n := n) (d := d) (h := h) (hi * 16 + i)
   rw [← or4 hh hi16] at hb
   cases hd : byD (hi * 16 + i) with
   | true =>
    rw [hd] at hb
    repeat (first | ((with_reducible refine Wp.lettu8 ?_ ?_ ?_); omega; omega) | (with_reducible first | refine Wp.l ?_ | (apply Wp.o; exact avBool_bool _)) | ((with_reducible refine Wp.ift ?_ ?_); first | (with_reducible rfl) | ((with_reducible apply decide_eq_true); omega)) | (with_reducible apply Wp.callN; assumption))
    have : mayB hi = true := by
     show mayB (⟨hi, hh⟩ : Fin 16).val = true
     rw [ha, List.any_eq_true]
     exact ⟨i, List.mem_range.2 hi16, hd⟩
    rw [this]
    exact Wp.ret ⟨rfl, rfl⟩
   | false =>
    rw [hd] at hb
    repeat (first | ((with_reducible first | refine Wp.lettw ?_ ?_ ?_ | refine Wp.lettu8 ?_ ?_ ?_); omega; omega) | (with_reducible first | refine Wp.l ?_ | (apply Wp.o; exact avBool_bool _)) | ((with_reducible refine Wp.ift ?_ ?_; apply decide_eq_true); omega) | (with_reducible first | (refine Wp.iff ?_ ?_; rfl) | (apply Wp.callN; assumption)))
    rw [show (i : Int) + 1 = ((i + 1 : Nat) : Int) by omega]
    refine mb_loop hh hk f (i + 1) (by omega) (by omega) fun j hj2 => ?_
    by_cases hji : j < i
    ·exact hj j hji
    ·have : j = i := by omega
     rw [this]
     exact hd
  ·repeat (first | (with_reducible refine Wp.l ?_) | ((with_reducible refine Wp.iff ?_ ?_; apply decide_eq_false); omega) | (with_reducible refine Wp.go0 (by assumption) ?_))
   have : mayB hi = false := by
    show mayB (⟨hi, hh⟩ : Fin 16).val = false
    rw [ha, List.any_eq_false]
    intro j hjm
    rw [hj j (by have := List.mem_range.1 hjm; omega)]
    simp
   rw [this]
   exact Wp.ret ⟨rfl, rfl⟩
theorem mayBegin_w (hn : 16 < n) {hi : Nat} (hh : hi < 16) : world n (d + 3) 82 [.int .u8 ((hi : Int) * 16)] h = some (.ret (.bool (mayB hi)), h) := by
 rw [w_pattern_mayBegin]
 refine (congrArg (gcR h) ?_).trans gcR_self
 apply Wp.eq
 unfold pattern_mayBegin
 repeat ((with_reducible refine Wp.join0 (fun _ _ => ?_)))
 rename_i k5 hk5
 exact mb_loop hh hk5 n 0 (by omega) (by omega) (fun j hj => absurd hj (by omega))
theorem digit_r (k : Rd h b u p) (hb : b < h.next) (hp : p ≤ u.length) (hu : u.length ≤ 1000000) : Step b u h (world n (d + 3) 81 [.ptr b 0] h) (match (at? u p).bind hexV with
  | some v => .ok (.int .u8 (v : Int), p + 1)
  | none => .error (6, p)) := by
 have hnx := next_r (n := n) (d := d) k hb hp hu
 cases ha : at? u p with
 | none =>
  rw [ha] at hnx
  refine Step.err_of ?_
  rw [w_pattern_reader_digit]
  unfold pattern_reader_digit
  exact Wp.stepE hnx fun h' p' k1 k2 => ⟨rfl, p', k1, k2⟩
 | some c =>
  rw [ha] at hnx
  obtain ⟨hpl, hpc⟩ := at?_some ha
  have hc := (u[p]).toNat_lt
  have hib : ∀ H, world n (d + 2) 87 [strA digitsB, .int .u8 (c : Int)] H = some (.ret (.int .i64 (ibV c)), H) := fun H => (w_ibF n (d + 1) _ H).trans (ibF_eq (by omega) H)
  show Step b u h _ (match hexV c with | some v => _ | none => _)
  cases hv : hexV c with
  | none =>
   have hi : ibV c = -1 := by unfold ibV; rw [hv]
   refine Step.err_of ?_
   rw [w_pattern_reader_digit]
   unfold pattern_reader_digit
   refine Wp.stepK hnx fun h' k1 k2 => ?_
   have hr := refuseLast_r (n := n) (d := d) k1 (by omega) hu
   have hib' := hib h'
   rw [hi] at hib'
   repeat (first | (with_reducible first | refine Wp.join0 (fun _ _ => ?_) | refine Wp.l ?_ | (apply Wp.o; exact avInt_int _ _)) | ((with_reducible refine Wp.ift ?_ ?_; apply decide_eq_true); omega) | ((with_reducible first | apply Wp.callN | apply Wp.callK); (with_reducible assumption)))
   exact Wp.callP hr ⟨rfl, _, k1, k2⟩
  | some v =>
   have hv16 := hexV_lt hv
   have hi : ibV c = (v : Int) := by unfold ibV; rw [hv]
   refine Step.ok_of ?_
   rw [w_pattern_reader_digit]
   unfold pattern_reader_digit
   refine Wp.stepK hnx fun h' k1 k2 => ?_
   have hib' := hib h'
   rw [hi] at hib'
   repeat (first | (with_reducible refine Wp.join0 (fun _ _ => ?_)) | ((with_reducible refine Wp.lettu8 ?_ ?_ ?_); omega; omega) | (with_reducible first | refine Wp.l ?_ | (apply Wp.o; exact avInt_int _ _)) | ((with_reducible refine Wp.iff ?_ ?_; apply decide_eq_false); omega) | (with_reducible first | (apply Wp.callN; assumption) | refine Wp.go0 (by assumption) ?_))
   exact Wp.ret ⟨rfl, k1, k2⟩
def stepF : FR → Except (Int × Nat) (AV × Nat)
 | .ok c q => .ok (.int .u8 (c : Int), q)
 | .bad q => .error (6, q)
theorem two_r (k : Rd h b u p) (hb : b < h.next) (hp : p ≤ u.length) (hu : u.length ≤ 1000000) (hn : 16 < n) : Step b u h (world n (d + 4) 73 [.ptr b 0] h) (stepF (hexAt u p)) := by
 have h1 := digit_r (n := n) (d := d) k hb hp hu
 unfold hexAt
 cases ha : (at? u p).bind hexV with
 | none =>
  rw [ha] at h1
  dsimp only
  refine Step.err_of ?_
  rw [w_pattern_reader_twoDigits]
  unfold pattern_reader_twoDigits
  exact Wp.stepE h1 fun h' p' k1 k2 => ⟨rfl, p', k1, k2⟩
 | some hi =>
  rw [ha] at h1
  dsimp only
  obtain ⟨c, hc0, hc⟩ := Option.bind_eq_some_iff.1 ha
  obtain ⟨hpl, _⟩ := at?_some hc0
  have hh := (hexV_lt hc).1
  have hmb : ∀ H, world n (d + 3) 82 [.int .u8 ((hi : Int) * 16)] H = some (.ret (.bool (mayB hi)), H) := fun H => mayBegin_w hn hh
  by_cases hm : mayB hi = false
  ·rw [if_pos hm]
   refine Step.err_of ?_
   rw [w_pattern_reader_twoDigits]
   unfold pattern_reader_twoDigits
   refine Wp.stepK h1 fun h' k1 k2 => ?_
   have hmb' := hmb h'
   rw [hm] at hmb'
   have hr := refuseLast_r (n := n) (d := d + 1) k1 (by omega) hu
   repeat (first | (with_reducible first | refine Wp.join0 (fun _ _ => ?_) | refine Wp.l ?_ | (apply Wp.o; first | exact shl4 hh | exact avInt_int _ _ | exact avBool_bool _) | (refine Wp.ift ?_ ?_; exact Bool.not_false)) | ((with_reducible first | apply Wp.callN | apply Wp.callK); (with_reducible assumption)))
   exact Wp.callP hr ⟨rfl, _, k1, k2⟩
  ·rw [if_neg hm]
   have hm : mayB hi = true := by simpa using hm
   cases hb2 : (at? u (p + 1)).bind hexV with
   | none =>
    dsimp only
    refine Step.err_of ?_
    rw [w_pattern_reader_twoDigits]
    unfold pattern_reader_twoDigits
    refine Wp.stepK h1 fun h' k1 k2 => ?_
    have hmb' := hmb h'
    rw [hm] at hmb'
    have h2 := digit_r (n := n) (d := d) k1 (lt_tch k2 hb) (by omega) hu
    rw [hb2] at h2
    repeat (first | (with_reducible first | refine Wp.join0 (fun _ _ => ?_) | refine Wp.l ?_ | (apply Wp.o; first | exact shl4 hh | exact avInt_int _ _ | exact avBool_bool _) | (refine Wp.iff ?_ ?_; exact Bool.not_true)) | ((with_reducible first | apply Wp.callN | apply Wp.callK); (with_reducible assumption)) | (with_reducible refine Wp.go0 (by assumption) ?_))
    exact Wp.stepE h2 fun h'' p' k3 k4 => ⟨rfl, p', k3, k2.trans k4⟩
   | some lo =>
    dsimp only
    obtain ⟨c2, hc20, hc2⟩ := Option.bind_eq_some_iff.1 hb2
    obtain ⟨hpl2, _⟩ := at?_some hc20
    have hl := (hexV_lt hc2).1
    have hbd : ∀ H, world n (d + 3) 83 [.int .u8 (orI .u8 ((hi : Int) * 16) (lo : Int))] H = some (.ret (.bool (byD (hi * 16 + lo))), H) := fun H => by
     rw [or4 hh hl]
     exact byDigits_w (n := n) (d := d + 1) (h := H) _
    by_cases hd : byD (hi * 16 + lo) = true
    ·rw [if_pos hd]
     refine Step.ok_of ?_
     rw [w_pattern_reader_twoDigits]
     unfold pattern_reader_twoDigits
     refine Wp.stepK h1 fun h' k1 k2 => ?_
     have hmb' := hmb h'
     rw [hm] at hmb'
     have h2 := digit_r (n := n) (d := d) k1 (lt_tch k2 hb) (by omega) hu
     rw [hb2] at h2
     repeat (first | (with_reducible first | refine Wp.join0 (fun _ _ => ?_) | refine Wp.l ?_ | (apply Wp.o; first | exact shl4 hh | exact avInt_int _ _ | exact avBool_bool _) | (refine Wp.iff ?_ ?_; exact Bool.not_true)) | ((with_reducible first | apply Wp.callN | apply Wp.callK); (with_reducible assumption)) | (with_reducible refine Wp.go0 (by assumption) ?_))
     refine Wp.stepK h2 fun h'' k3 k4 => ?_
     have hbd' := hbd h''
     rw [hd] at hbd'
     repeat (with_reducible first | refine Wp.join0 (fun _ _ => ?_) | refine Wp.l ?_ | (apply Wp.o; first | exact avInt_int _ _ | exact avBool_bool _) | (refine Wp.iff ?_ ?_; exact Bool.not_true) | (apply Wp.callN; assumption) | refine Wp.go0 (by assumption) ?_)
     rw [or4 hh hl]
     exact Wp.ret ⟨rfl, k3, k2.trans k4⟩
    ·rw [if_neg hd]
     have hd : byD (hi * 16 + lo) = false := by simpa using hd
     refine Step.err_of ?_
     rw [w_pattern_reader_twoDigits]
     unfold pattern_reader_twoDigits
     refine Wp.stepK h1 fun h' k1 k2 => ?_
     have hmb' := hmb h'
     rw [hm] at hmb'
     have h2 := digit_r (n := n) (d := d) k1 (lt_tch k2 hb) (by omega) hu
     rw [hb2] at h2
     repeat (first | (with_reducible first | refine Wp.join0 (fun _ _ => ?_) | refine Wp.l ?_ | (apply Wp.o; first | exact shl4 hh | exact avInt_int _ _ | exact avBool_bool _) | (refine Wp.iff ?_ ?_; exact Bool.not_true)) | ((with_reducible first | apply Wp.callN | apply Wp.callK); (with_reducible assumption)) | (with_reducible refine Wp.go0 (by assumption) ?_))
     refine Wp.stepK h2 fun h'' k3 k4 => ?_
     have hbd' := hbd h''
     rw [hd] at hbd'
     have hr := refuseLast_r (n := n) (d := d + 1) k3 (by omega) hu
     repeat (first | (with_reducible first | refine Wp.join0 (fun _ _ => ?_) | refine Wp.l ?_ | (apply Wp.o; first | exact avInt_int _ _ | exact avBool_bool _) | (refine Wp.ift ?_ ?_; exact Bool.not_false)) | ((with_reducible first | apply Wp.callN | apply Wp.callK); (with_reducible assumption)))
     exact Wp.callP hr ⟨rfl, _, k3, k2.trans k4⟩
theorem form_r (k : Rd h b u p) (hb : b < h.next) (hp : p ≤ u.length) (hu : u.length ≤ 1000000) (hn : 16 < n) (hq : at? u p ≠ some 34) : Step b u h (world n (d + 5) 58 [.ptr b 0] h) (stepF (formAt u p)) := by
 have h1 := next_r (n := n) (d := d + 2) k hb hp hu
 unfold formAt
 cases ha : at? u p with
 | none =>
  rw [ha] at h1
  dsimp only
  refine Step.err_of ?_
  rw [w_pattern_reader_form]
  unfold pattern_reader_form
  exact Wp.stepE h1 fun h' p' k1 k2 => ⟨rfl, p', k1, k2⟩
 | some a =>
  rw [ha] at h1
  dsimp only
  obtain ⟨hpl, hpa⟩ := at?_some ha
  have ha34 : a ≠ 34 := fun e => hq (by rw [ha, e])
  have hp1 : ∀ H, world n (d + 4) 51 [.int .u8 (a : Int)] H = some (.ret (.bool (plainB a)), H) := fun H => plain_w a
  by_cases h92 : a = 92
  case neg =>
   rw [if_neg h92]
   by_cases hpb : plainB a = true
   ·rw [if_pos ⟨hpb, ha34⟩]
    refine Step.ok_of ?_
    rw [w_pattern_reader_form]
    unfold pattern_reader_form
    refine Wp.stepK h1 fun h' k1 k2 => ?_
    have hp2 := hp1 h'
    rw [hpb] at hp2
    repeat (first | (with_reducible first | refine Wp.join0 (fun _ _ => ?_) | refine Wp.l ?_ | (apply Wp.o; first | exact avInt_int _ _ | exact avBool_bool _)) | ((with_reducible refine Wp.ift ?_ ?_; apply bne_t); omega) | (with_reducible first | (refine Wp.iff ?_ ?_; exact Bool.not_true) | (apply Wp.callN; assumption) | refine Wp.go0 (by assumption) ?_))
    exact Wp.ret ⟨rfl, k1, k2⟩
   ·rw [if_neg (fun hh => hpb hh.1)]
    have hpb : plainB a = false := by simpa using hpb
    refine Step.err_of ?_
    rw [w_pattern_reader_form]
    unfold pattern_reader_form
    refine Wp.stepK h1 fun h' k1 k2 => ?_
    have hp2 := hp1 h'
    rw [hpb] at hp2
    have hr := refuseLast_r (n := n) (d := d + 2) k1 (by omega) hu
    repeat (first | (with_reducible first | refine Wp.join0 (fun _ _ => ?_) | refine Wp.l ?_ | (apply Wp.o; first | exact avInt_int _ _ | exact avBool_bool _)) | ((with_reducible refine Wp.ift ?_ ?_); first | (with_reducible exact Bool.not_false) | ((with_reducible apply bne_t); omega)) | ((with_reducible first | apply Wp.callN | apply Wp.callK); (with_reducible assumption)))
    exact Wp.callP hr ⟨rfl, _, k1, k2⟩
  case pos =>
   rw [if_pos h92]
   unfold escAt
   cases hd : at? u (p + 1) with
   | none =>
    dsimp only
    refine Step.err_of ?_
    rw [w_pattern_reader_form]
    unfold pattern_reader_form
    refine Wp.stepK h1 fun h' k1 k2 => ?_
    have h2 := next_r (n := n) (d := d + 2) k1 (lt_tch k2 hb) (by omega) hu
    rw [hd] at h2
    repeat (first | (with_reducible first | refine Wp.l ?_ | (apply Wp.o; exact avInt_int _ _)) | ((with_reducible refine Wp.iff ?_ ?_; apply bne_f); omega))
    exact Wp.stepE h2 fun h'' p' k3 k4 => ⟨rfl, p', k3, k2.trans k4⟩
   | some c =>
    dsimp only
    obtain ⟨hpl2, hpc⟩ := at?_some hd
    by_cases c1 : c = 34
    ·rw [if_pos (.inl c1)]
     refine Step.ok_of ?_
     rw [w_pattern_reader_form]
     unfold pattern_reader_form
     refine Wp.stepK h1 fun h' k1 k2 => ?_
     have h2 := next_r (n := n) (d := d + 2) k1 (lt_tch k2 hb) (by omega) hu
     rw [hd] at h2
     repeat (first | (with_reducible first | refine Wp.l ?_ | (apply Wp.o; exact avInt_int _ _)) | ((with_reducible refine Wp.iff ?_ ?_; apply bne_f); omega))
     refine Wp.stepK h2 fun h'' k3 k4 => ?_
     repeat (first | (with_reducible first | refine Wp.join1 (fun _ _ => ?_) | refine Wp.l ?_ | (apply Wp.o; exact avInt_int _ _)) | ((with_reducible refine Wp.ift ?_ ?_); first | (with_reducible rfl) | ((with_reducible apply beq_t); omega)) | (with_reducible refine Wp.go1 (by assumption) ?_))
     exact Wp.ret ⟨rfl, k3, k2.trans k4⟩
    by_cases c2 : c = 92
    ·rw [if_pos (.inr c2)]
     have q92 : ((c : Int) == 92) = true := beq_t (by omega)
     refine Step.ok_of ?_
     rw [w_pattern_reader_form]
     unfold pattern_reader_form
     refine Wp.stepK h1 fun h' k1 k2 => ?_
     have h2 := next_r (n := n) (d := d + 2) k1 (lt_tch k2 hb) (by omega) hu
     rw [hd] at h2
     repeat (first | (with_reducible first | refine Wp.l ?_ | (apply Wp.o; exact avInt_int _ _)) | ((with_reducible refine Wp.iff ?_ ?_; apply bne_f); omega))
     refine Wp.stepK h2 fun h'' k3 k4 => ?_
     repeat (first | (with_reducible first | refine Wp.join1 (fun _ _ => ?_) | refine Wp.l ?_ | (apply Wp.o; exact avInt_int _ _) | (refine Wp.ift ?_ ?_; assumption)) | ((with_reducible refine Wp.iff ?_ ?_; apply beq_f); omega) | (with_reducible refine Wp.go1 (by assumption) ?_))
     exact Wp.ret ⟨rfl, k3, k2.trans k4⟩
    have q92 : ((c : Int) == 92) = false := beq_f (by omega)
    rw [if_neg (by omega)]
    by_cases c3 : c = 110
    ·rw [if_pos c3]
     refine Step.ok_of ?_
     rw [w_pattern_reader_form]
     unfold pattern_reader_form
     refine Wp.stepK h1 fun h' k1 k2 => ?_
     have h2 := next_r (n := n) (d := d + 2) k1 (lt_tch k2 hb) (by omega) hu
     rw [hd] at h2
     repeat (first | (with_reducible first | refine Wp.l ?_ | (apply Wp.o; exact avInt_int _ _)) | ((with_reducible refine Wp.iff ?_ ?_; apply bne_f); omega))
     refine Wp.stepK h2 fun h'' k3 k4 => ?_
     repeat (first | (with_reducible first | refine Wp.join1 (fun _ _ => ?_) | refine Wp.l ?_ | (apply Wp.o; exact avInt_int _ _)) | ((with_reducible refine Wp.ift ?_ ?_; apply beq_t); omega) | ((with_reducible refine Wp.iff ?_ ?_); first | (with_reducible assumption) | ((with_reducible apply beq_f); omega)) | (with_reducible refine Wp.go1 (by assumption) ?_))
     exact Wp.ret ⟨rfl, k3, k2.trans k4⟩
    rw [if_neg c3]
    by_cases c4 : c = 114
    ·rw [if_pos c4]
     refine Step.ok_of ?_
     rw [w_pattern_reader_form]
     unfold pattern_reader_form
     refine Wp.stepK h1 fun h' k1 k2 => ?_
     have h2 := next_r (n := n) (d := d + 2) k1 (lt_tch k2 hb) (by omega) hu
     rw [hd] at h2
     repeat (first | (with_reducible first | refine Wp.l ?_ | (apply Wp.o; exact avInt_int _ _)) | ((with_reducible refine Wp.iff ?_ ?_; apply bne_f); omega))
     refine Wp.stepK h2 fun h'' k3 k4 => ?_
     repeat (first | (with_reducible first | refine Wp.join1 (fun _ _ => ?_) | refine Wp.l ?_ | (apply Wp.o; exact avInt_int _ _)) | ((with_reducible refine Wp.ift ?_ ?_; apply beq_t); omega) | ((with_reducible refine Wp.iff ?_ ?_); first | (with_reducible assumption) | ((with_reducible apply beq_f); omega)) | (with_reducible refine Wp.go1 (by assumption) ?_))
     exact Wp.ret ⟨rfl, k3, k2.trans k4⟩
    rw [if_neg c4]
    by_cases c5 : c = 116
    ·rw [if_pos c5]
     refine Step.ok_of ?_
     rw [w_pattern_reader_form]
     unfold pattern_reader_form
     refine Wp.stepK h1 fun h' k1 k2 => ?_
     have h2 := next_r (n := n) (d := d + 2) k1 (lt_tch k2 hb) (by omega) hu
     rw [hd] at h2
     repeat (first | (with_reducible first | refine Wp.l ?_ | (apply Wp.o; exact avInt_int _ _)) | ((with_reducible refine Wp.iff ?_ ?_; apply bne_f); omega))
     refine Wp.stepK h2 fun h'' k3 k4 => ?_
     repeat (first | (with_reducible first | refine Wp.join1 (fun _ _ => ?_) | refine Wp.l ?_ | (apply Wp.o; exact avInt_int _ _)) | ((with_reducible refine Wp.ift ?_ ?_; apply beq_t); omega) | ((with_reducible refine Wp.iff ?_ ?_); first | (with_reducible assumption) | ((with_reducible apply beq_f); omega)) | (with_reducible refine Wp.go1 (by assumption) ?_))
     exact Wp.ret ⟨rfl, k3, k2.trans k4⟩
    rw [if_neg c5]
    by_cases c6 : c = 120
    ·rw [if_pos c6]
     have h3 : ∀ H, Rd H b u (p + 1 + 1) → b < H.next → Step b u H (world n (d + 4) 73 [.ptr b 0] H) (stepF (hexAt u (p + 1 + 1))) := fun H k3 hb3 => two_r k3 hb3 (by omega) hu hn
     cases hx : hexAt u (p + 1 + 1) with
     | ok v q =>
      rw [hx] at h3
      refine Step.ok_of ?_
      rw [w_pattern_reader_form]
      unfold pattern_reader_form
      refine Wp.stepK h1 fun h' k1 k2 => ?_
      have h2 := next_r (n := n) (d := d + 2) k1 (lt_tch k2 hb) (by omega) hu
      rw [hd] at h2
      repeat (first | (with_reducible first | refine Wp.l ?_ | (apply Wp.o; exact avInt_int _ _)) | ((with_reducible refine Wp.iff ?_ ?_; apply bne_f); omega))
      refine Wp.stepK h2 fun h'' k3 k4 => ?_
      have h3' := h3 h'' k3 (lt_tch k4 (lt_tch k2 hb))
      repeat (first | (with_reducible first | refine Wp.join1 (fun _ _ => ?_) | refine Wp.l ?_ | (apply Wp.o; exact avInt_int _ _)) | ((with_reducible refine Wp.ift ?_ ?_; apply beq_t); omega) | ((with_reducible refine Wp.iff ?_ ?_); first | (with_reducible assumption) | ((with_reducible apply beq_f); omega)) | (with_reducible refine Wp.go1 (by assumption) ?_))
      refine Wp.stepK h3' fun h''' k5 k6 => ?_
      repeat (((with_reducible apply Wp.o); (with_reducible exact avInt_int _ _)))
      exact Wp.ret ⟨rfl, k5, (k2.trans k4).trans k6⟩
     | bad q =>
      rw [hx] at h3
      refine Step.err_of ?_
      rw [w_pattern_reader_form]
      unfold pattern_reader_form
      refine Wp.stepK h1 fun h' k1 k2 => ?_
      have h2 := next_r (n := n) (d := d + 2) k1 (lt_tch k2 hb) (by omega) hu
      rw [hd] at h2
      repeat (first | (with_reducible first | refine Wp.l ?_ | (apply Wp.o; exact avInt_int _ _)) | ((with_reducible refine Wp.iff ?_ ?_; apply bne_f); omega))
      refine Wp.stepK h2 fun h'' k3 k4 => ?_
      have h3' := h3 h'' k3 (lt_tch k4 (lt_tch k2 hb))
      repeat (first | (with_reducible first | refine Wp.join1 (fun _ _ => ?_) | refine Wp.l ?_ | (apply Wp.o; exact avInt_int _ _)) | ((with_reducible refine Wp.ift ?_ ?_; apply beq_t); omega) | ((with_reducible refine Wp.iff ?_ ?_); first | (with_reducible assumption) | ((with_reducible apply beq_f); omega)) | (with_reducible refine Wp.go1 (by assumption) ?_))
      exact Wp.stepE h3' fun h''' p' k5 k6 => ⟨rfl, p', k5, (k2.trans k4).trans k6⟩
    rw [if_neg c6]
    refine Step.err_of ?_
    rw [w_pattern_reader_form]
    unfold pattern_reader_form
    refine Wp.stepK h1 fun h' k1 k2 => ?_
    have h2 := next_r (n := n) (d := d + 2) k1 (lt_tch k2 hb) (by omega) hu
    rw [hd] at h2
    repeat (first | (with_reducible first | refine Wp.l ?_ | (apply Wp.o; exact avInt_int _ _)) | ((with_reducible refine Wp.iff ?_ ?_; apply bne_f); omega))
    refine Wp.stepK h2 fun h'' k3 k4 => ?_
    have hr := refuseLast_r (n := n) (d := d + 2) k3 (by omega) hu
    repeat (first | (with_reducible first | refine Wp.join1 (fun _ _ => ?_) | refine Wp.l ?_ | (apply Wp.o; exact avInt_int _ _)) | ((with_reducible refine Wp.iff ?_ ?_); first | (with_reducible assumption) | ((with_reducible apply beq_f); omega)) | (with_reducible refine Wp.go1 (by assumption) ?_))
    exact Wp.callP hr ⟨rfl, _, k3, k2.trans k4⟩
end
open Go.RowKit Abs
abbrev TBld : Nat := 57
abbrev TU8 : Nat := 5
abbrev BldW (h : AHeap) (b c : Nat) (l : Bytes) : Prop := BldR TBld TU8 h b c l
theorem eql_nil_nil (h : AHeap) : opBin Try.prog h .eql 55 true (some .nilp) (some .nilp) = some (.val (.bool true), h) := by kernel_rfl
theorem eql_ptr_nil (h : AHeap) (b : Nat) : opBin Try.prog h .eql 55 true (some (.ptr b 0)) (some .nilp) = some (.val (.bool false), h) := by kernel_rfl
theorem noEscape_ptr (h : AHeap) (b : Nat) : externA Try.prog h 70 [.ptr b 0] = some (.val (.ptr b 0), h) := by kernel_rfl
theorem binV_same (P : Program) (h : AHeap) (op : BinOp) (t : TypeId) (lit : Bool) (b o o' : Nat) : opBinV P h op t lit (some (.ptr b o)) (some (.ptr b o')) = opBin P h op t lit (some (.ptr b o)) (some (.ptr b o')) := by
 have hb : Nat.beq b b = true := Nat.beq_refl b
 simp only [opBinV, apartPtr, hb, Bool.not_true, Bool.false_and, Bool.and_false]
theorem conv_there {h : AHeap} {b : Nat} {t : T AV} (hb : h.get b = some (.row 2 t TBld)) : opConv Try.prog h 55 102 (some (.ptr b 0)) = some (.val (.ptr b 0), h) :=
 conv_unsafe (k := 1) (by kernel_rfl) (by kernel_rfl) hb
theorem conv_back {h : AHeap} {b : Nat} {t : T AV} (hb : h.get b = some (.row 2 t TBld)) (hx : memB TBld h.ex = true) : opConv Try.prog h 102 55 (some (.ptr b 0)) = some (.val (.ptr b 0), h) :=
 conv_safe (u := TBld) (by kernel_rfl) (by kernel_rfl) hb hx (by kernel_rfl)
theorem neq_same (h : AHeap) (b : Nat) : opBin Try.prog h .neq 55 false (some (.ptr b 0)) (some (.ptr b 0)) = some (.val (.bool false), h) :=
 neq_self (u := TBld) (by kernel_rfl)
theorem bldSl_byte (h : AHeap) (v : Int) : bldSl Try.prog h 50 1 [(0, .int .u8 v)] = outNewS h TU8 [.int .u8 v] 1 1 := by kernel_rfl
theorem out_news {h : AHeap} {e : TypeId} {l : List AV} {n sz : Nat} (h1 : l.all AV.one = true) (hex : memB e h.ex = false) : outNewS h e l n sz = some (.val (.sl h.next 0 n sz), newH h e l) := by
 unfold outNewS
 rw [if_pos ⟨h1, hex⟩]
 rfl
section
variable {n d b c : Nat} {h : AHeap} {l : Bytes} {Q : ARes → AHeap → Prop}
theorem copyCheck_r (k : BldW h b c l) (hx : memB TBld h.ex = true) : ∃ h', world n (d + 1) 49 [.ptr b 0] h = some (.ret (.tup []), h') ∧ BldW h' b c l ∧ Tch [b] h h' := by
 obtain ⟨a, buf, k1, k2, k3, k4⟩ := k
 apply Wp.ex
 rw [w_strings_Builder_copyCheck]
 unfold strings_Builder_copyCheck
 repeat (((with_reducible apply Wp.o); first | (with_reducible first | exact nilC_ptr _ _ | exact fldP_ptr _ _ _) | ((with_reducible apply RowH.cell'); (with_reducible assumption); rfl)))
 rcases k3 with rfl | rfl
 ·refine Wp.outK (eql_nil_nil h) ?_
  repeat (with_reducible first | refine Wp.join0 (fun _ _ => ?_) | (apply Wp.o; exact avBool_bool _) | (refine Wp.ift ?_ ?_; rfl))
  have k1' := k1
  obtain ⟨t, g1, _⟩ := k1'
  refine Wp.outK (conv_there g1) ?_
  refine Wp.outK (noEscape_ptr h b) ?_
  refine Wp.outK (conv_back g1 hx) ?_
  repeat (((with_reducible apply Wp.o); (with_reducible first | exact nilC_ptr _ _ | exact fldP_ptr _ _ _)))
  refine Wp.st1 k1 (by simp) rfl (fun h' q1 q2 q3 => ?_)
  repeat ((with_reducible refine Wp.go0 (by assumption) ?_))
  exact Wp.ret ⟨rfl, ⟨_, buf, q1, by omega, .inr rfl, k4.tch q2 (fun hc => by simpa using hc)⟩, q2⟩
 ·refine Wp.outK (eql_ptr_nil h b) ?_
  repeat (first | (with_reducible refine Wp.join0 (fun _ _ => ?_)) | ((with_reducible apply Wp.o); first | (with_reducible first | exact avBool_bool _ | exact nilC_ptr _ _ | exact fldP_ptr _ _ _) | ((with_reducible apply RowH.cell'); (with_reducible assumption); rfl)) | (with_reducible refine Wp.iff ?_ ?_; rfl))
  refine Wp.outK ((binV_same _ _ _ _ _ _ _ _).trans (neq_same h b)) ?_
  repeat (with_reducible first | (apply Wp.o; exact avBool_bool _) | (refine Wp.iff ?_ ?_; rfl) | refine Wp.go0 (by assumption) ?_)
  exact Wp.ret ⟨rfl, ⟨_, buf, k1, k2, .inr rfl, k4⟩, Tch.refl _ _⟩
theorem writeByte_r (k : BldW h b c l) (hx : memB TBld h.ex = true) (hu : memB TU8 h.ex = false) {y : Nat} (hy : y < 256) (hbig : l.length + 1 ≤ 1000000000) :
  ∃ c' h', world n (d + 2) 29 [.ptr b 0, .int .u8 (y : Int)] h = some (.ret .nifc, h') ∧ BldW h' b c' (l ++ [UInt8.ofNat y]) ∧ (c' = c ∨ h.next ≤ c') ∧ Tch [b, c] h h' := by
 obtain ⟨h1, e1, q1, t1⟩ := copyCheck_r (n := n) (d := d) k hx
 suffices hK : Wp (world n (d + 2) 29 [.ptr b 0, .int .u8 (y : Int)] h) fun r h' => ∃ c', r = .ret .nifc ∧ BldW h' b c' (l ++ [UInt8.ofNat y]) ∧ (c' = c ∨ h.next ≤ c') ∧ Tch [b, c] h h' by
  obtain ⟨_, h', e, c', rfl, q⟩ := hK
  exact ⟨c', h', e, q⟩
 rw [w_strings_Builder_WriteByte]
 unfold strings_Builder_WriteByte
 refine Wp.callN e1 ?_
 have hlt := q1.lt
 obtain ⟨a, buf, k1, k2, k3, k4⟩ := q1
 repeat (((with_reducible apply Wp.o); first | (with_reducible first | exact nilC_ptr _ _ | exact fldP_ptr _ _ _) | ((with_reducible apply RowH.cell'); (with_reducible assumption); rfl)))
 refine Wp.outK ((bldSl_byte _ _).trans (out_news rfl (by rw [t1.2.1]; exact hu))) ?_
 have tN : Tch [] h1 (newH h1 TU8 [.int .u8 (y : Int)]) := Tch.newH _ _ _ _
 have kN := RowH.new h1 TU8 [.int .u8 (y : Int)]
 have nN := next_newH h1 TU8 [.int .u8 (y : Int)]
 have hyb : bytesC [UInt8.ofNat y] = [.int .u8 (y : Int)] := by
  show [AV.int .u8 ((UInt8.ofNat y).toNat : Int)] = _
  rw [UInt8.toNat_ofNat']
  rw [Nat.mod_eq_of_lt (by omega)]
 obtain ⟨buf', c', h2, a1, a2, a3, a4, a5⟩ := (k4.tch tN (by simp)).append1 (P := Try.prog) (t := 50) (u := 50) (x := .sl h1.next 0 1 1) (by omega) (UInt8.ofNat y) (by kernel_rfl) (by kernel_rfl) (by kernel_rfl) (by kernel_rfl) (by rw [tN.2.1, t1.2.1]; exact hu) rfl (by rw [hyb]; exact first_one kN rfl) hbig
 refine Wp.outK a1 ?_
 have k2' : RowH h2 b TBld [a, buf] := (k1.tch tN k2 (by simp)).same a5
 obtain ⟨o1, o2, _⟩ := a2.one
 rw [o2]
 repeat (((with_reducible apply Wp.o); (with_reducible first | exact nilC_ptr _ _ | exact fldP_ptr _ _ _)))
 refine Wp.st1 k2' (by simp) o1 (fun h3 r1 r2 r3 => ?_)
 have n1 := t1.1
 have n2 := a4.1
 refine Wp.ret ⟨c', rfl, ⟨a, buf', r1, by omega, k3, a2.tch r2 (fun hc => by simpa using hc)⟩, by omega, ?_⟩
 exact (t1.mono (by simp)).trans ((tN.mono (by simp)).trans ((a4.mono (by simp)).trans (r2.mono (by simp))))
theorem len_r (k : BldW h b c l) : world n (d + 1) 56 [.ptr b 0] h = some (.ret (.int .i64 (l.length : Int)), h) := by
 obtain ⟨a, buf, k1, k2, k3, k4⟩ := k
 apply Wp.eq
 rw [w_strings_Builder_Len]
 unfold strings_Builder_Len
 repeat (((with_reducible apply Wp.o); first | (with_reducible first | exact k4.one.2.2 | exact nilC_ptr _ _ | exact fldP_ptr _ _ _) | ((with_reducible apply RowH.cell'); (with_reducible assumption); rfl)))
 exact Wp.ret ⟨rfl, rfl⟩
theorem string_r (k : BldW h b c l) (hbig : l.length ≤ 1000000000) : ∃ h', world n (d + 1) 31 [.ptr b 0] h = some (.ret (strA l), h') ∧ Tch [b, c] h h' := by
 obtain ⟨a, buf, k1, k2, k3, k4⟩ := k
 apply Wp.ex
 rw [w_strings_Builder_String]
 unfold strings_Builder_String
 repeat (((with_reducible apply Wp.o); first | (with_reducible first | exact nilC_ptr _ _ | exact fldP_ptr _ _ _) | ((with_reducible apply RowH.cell'); (with_reducible assumption); rfl)))
 refine Wp.o k4.one.2.2 ?_
 rcases k4 with ⟨rfl, rfl, rfl⟩ | ⟨rfl, g0, g1, g2, g3⟩
 ·refine Wp.outK (show opSliceData h .nsl = some (.val .nilp, h) from rfl) ?_
  refine Wp.chk (by rw [reLoad_cell (P := Try.prog) (ty := 50) (by kernel_rfl) (k1.cell' rfl) same_nsl]; rfl) ?_
  refine Wp.outK (show opUnsafeStr Try.prog h 89 .nilp (.int .i64 0) = some (.val (strA []), h) from rfl) ?_
  repeat (((with_reducible apply Wp.o); (with_reducible exact avStr_str _)))
  exact Wp.ret ⟨rfl, Tch.refl _ _⟩
 ·have d1 : opSliceData h (.sl c 0 l.length 1) = some (.val (.ptr c 0), h) := by
   cases l with
   | nil => exact absurd rfl g0
   | cons x l => rfl
  refine Wp.outK d1 ?_
  refine Wp.chk (by rw [reLoad_cell (P := Try.prog) (ty := 50) (by kernel_rfl) (k1.cell' rfl) (same_sl _ _ _ _)]; rfl) ?_
  have g4 := g3.part (o := 0) (n := (bytesC l).length) (by omega)
  rw [List.drop_zero, List.take_length, bytesC_length] at g4
  refine Wp.outK (unsafeStr_row (by kernel_rfl) g0 hbig g4 g3.type) ?_
  repeat (((with_reducible apply Wp.o); (with_reducible exact avStr_str _)))
  exact Wp.ret ⟨rfl, Tch.put (.inl (by simp)) _⟩
end
section
variable {n d b p : Nat} {h : AHeap} {u : Bytes} {Q : ARes → AHeap → Prop}
theorem take_r (k : Rd h b u p) (hb : b < h.next) (hp : p ≤ u.length) (hu : u.length ≤ 1000000) (c : Nat) : Step b u h (world n (d + 4) 54 [.ptr b 0, .int .u8 (c : Int)] h) (if at? u p = some c then .ok (.tup [], p + 1) else .error (6, p)) := by
 have hs := skips_r (n := n) (d := d) k hb hp hu c
 by_cases hc : at? u p = some c
 ·rw [if_pos hc, decide_eq_true hc] at hs
  rw [if_pos hc]
  refine Step.ok_of ?_
  rw [w_pattern_reader_take]
  unfold pattern_reader_take
  refine Wp.stepN hs fun h' k1 k2 => ?_
  repeat (with_reducible first | refine Wp.join0 (fun _ _ => ?_) | refine Wp.l ?_ | (apply Wp.o; exact avBool_bool _) | (refine Wp.iff ?_ ?_; exact Bool.not_true) | refine Wp.go0 (by assumption) ?_)
  exact Wp.ret ⟨rfl, k1, k2⟩
 ·rw [if_neg hc, decide_eq_false hc] at hs
  rw [if_neg hc]
  refine Step.err_of ?_
  rw [w_pattern_reader_take]
  unfold pattern_reader_take
  refine Wp.stepN hs fun h' k1 k2 => ?_
  have hr := refuse_r (n := n) (d := d + 2) (h := h') 6 p
  repeat (first | (with_reducible first | refine Wp.join0 (fun _ _ => ?_) | refine Wp.l ?_) | ((with_reducible apply Wp.o); first | (with_reducible first | exact avInt_int _ _ | exact avBool_bool _ | exact nilC_ptr _ _ | exact fldP_ptr _ _ _) | ((with_reducible apply RowH.cell'); (with_reducible assumption); rfl)) | (with_reducible refine Wp.ift ?_ ?_; exact Bool.not_false))
  exact Wp.callP hr ⟨rfl, p, k1, k2⟩
theorem quoted_loop {most : Int} {bb : Nat} {hp0 : AHeap} (ebb : newP hp0 = .ptr bb 0) {H0 : AHeap} (hb : b < H0.next) (hbb : bb < H0.next) (hne : b ≠ bb) (hu : u.length ≤ 1000000) (hn : 16 < n) (hxB : memB TBld H0.ex = true) (hx8 : memB TU8 H0.ex = false) {k10 : AHeap → R} :
  ∀ (fuel f p c : Nat) (acc : Bytes) (H : AHeap), fuel < f → u.length + 1 ≤ fuel + p → p ≤ u.length → acc.length ≤ p → Rd H b u p → BldW H bb c acc → (c = bb ∨ H0.next ≤ c) → Tch [b, bb] H0 H →
   (∀ l q c' H', scanQ u most fuel p acc = .ok l q → l.length ≤ u.length → Rd H' b u q → BldW H' bb c' l → (c' = bb ∨ H0.next ≤ c') → Tch [b, bb] H0 H' → Wp (k10 H') Q) →
   (∀ e q p' H', scanQ u most fuel p acc = .bad e q → Rd H' b u p' → Tch [b, bb] H0 H' → Q (.panic (PanA e q)) H') →
   Wp (pattern_reader_quoted_L0 (world n (d + 5)) (.ptr b 0) most hp0 k10 f H) Q
 | 0, f, p, c, acc, H, hf, hfu, hp, _, _, _, _, _, _, _ => by omega
 | fuel + 1, f + 1, p, c, acc, H, hf, hfu, hp, hacc, k, B, hc, t, hok, hbad => by
  rw [pattern_reader_quoted_L0_s]
  unfold pattern_reader_quoted_L0b
  have n0 := t.1
  have hs := skips_r (n := n) (d := d + 2) k (by omega) hp hu 34
  by_cases hq : at? u p = some 34
  ·rw [if_pos hq, decide_eq_true hq] at hs
   have hok' := hok acc (p + 1) 
   refine Wp.stepN hs fun h1 k1 t1 => ?_
   obtain ⟨hpl, _⟩ := at?_some hq
   repeat (with_reducible first | refine Wp.l ?_ | (apply Wp.o; exact avBool_bool _) | (refine Wp.iff ?_ ?_; exact Bool.not_true))
   exact hok acc (p + 1) c h1 (by rw [scanQ, if_pos hq]) (by omega) k1 (B.tch t1 (by simpa using Ne.symm hne) (by simp; omega)) hc (t.trans (t1.mono (by simp)))
  ·rw [if_neg hq, decide_eq_false hq] at hs
   refine Wp.stepN hs fun h1 k1 t1 => ?_
   have B1 := B.tch t1 (by simpa using Ne.symm hne) (by simp; omega)
   have tt1 : Tch [b, bb] H0 h1 := t.trans (t1.mono (by simp))
   have n1 := t1.1
   have hl := len_r (n := n) (d := d + 4) B1
   rw [ebb]
   by_cases hm : (acc.length : Int) = most
   ·have hr := refuse_r (n := n) (d := d + 4) (h := h1) 3 p
    repeat (first | (with_reducible first | refine Wp.join0 (fun _ _ => ?_) | refine Wp.l ?_) | ((with_reducible apply Wp.o); first | (with_reducible first | exact avInt_int _ _ | exact avBool_bool _ | exact nilC_ptr _ _ | exact fldP_ptr _ _ _) | ((with_reducible apply RowH.cell'); (with_reducible assumption); rfl)) | ((with_reducible refine Wp.ift ?_ ?_); first | (with_reducible exact Bool.not_false) | ((with_reducible apply beq_t); omega)) | ((with_reducible first | apply Wp.callN | apply Wp.callK); (with_reducible assumption)))
    exact Wp.callP hr (hbad 3 p p h1 (by rw [scanQ, if_neg hq, if_pos hm]) k1 tt1)
   ·have hfo := form_r (n := n) (d := d) k1 (by omega) hp hu hn hq
    cases hx : formAt u p with
    | bad q =>
     rw [hx] at hfo
     repeat (first | (with_reducible first | refine Wp.join0 (fun _ _ => ?_) | refine Wp.l ?_ | (apply Wp.o; first | exact avInt_int _ _ | exact avBool_bool _) | (refine Wp.ift ?_ ?_; exact Bool.not_false)) | ((with_reducible refine Wp.iff ?_ ?_; apply beq_f); omega) | ((with_reducible first | apply Wp.callN | apply Wp.callK); (with_reducible assumption)) | (with_reducible refine Wp.go0 (by assumption) ?_))
     exact Wp.stepE hfo fun h2 p2 k2 t2 => hbad 6 q p2 h2 (by rw [scanQ, if_neg hq, if_neg hm, hx]) k2 (tt1.trans (t2.mono (by simp)))
    | ok v q =>
     rw [hx] at hfo
     obtain ⟨hv, hq1, hq2⟩ := formAt_ok hx
     repeat (first | (with_reducible first | refine Wp.join0 (fun _ _ => ?_) | refine Wp.l ?_ | (apply Wp.o; first | exact avInt_int _ _ | exact avBool_bool _) | (refine Wp.ift ?_ ?_; exact Bool.not_false)) | ((with_reducible refine Wp.iff ?_ ?_; apply beq_f); omega) | ((with_reducible first | apply Wp.callN | apply Wp.callK); (with_reducible assumption)) | (with_reducible refine Wp.go0 (by assumption) ?_))
     refine Wp.stepK hfo fun h2 k2 t2 => ?_
     have B2 := B1.tch t2 (by simpa using Ne.symm hne) (by simp; omega)
     have tt2 : Tch [b, bb] H0 h2 := tt1.trans (t2.mono (by simp))
     have n2 := t2.1
     obtain ⟨c', h3, e3, B3, hc', t3⟩ := writeByte_r (n := n) (d := d + 3) B2 (by rw [tt2.2.1]; exact hxB) (by rw [tt2.2.1]; exact hx8) hv (by omega)
     have hbc : b ≠ c := by omega
     repeat (with_reducible first | (apply Wp.o; exact avInt_int _ _) | (apply Wp.callN; assumption))
     refine quoted_loop ebb hb hbb hne hu hn hxB hx8 fuel f q c' (acc ++ [UInt8.ofNat v]) h3 (by omega) (by omega) hq2 (by simp; omega) (k2.tch t3 (by omega) (by simp; exact ⟨hne, hbc⟩)) B3 (by omega) (tt2.trans' t3 (by intro x hx; simp only [List.mem_cons, List.not_mem_nil, or_false] at hx ⊢; omega)) ?_ ?_
     ·intro l q' c'' H' hsc
      exact hok l q' c'' H' (by rw [scanQ, if_neg hq, if_neg hm, hx]; exact hsc)
     ·intro e q' p' H' hsc
      exact hbad e q' p' H' (by rw [scanQ, if_neg hq, if_neg hm, hx]; exact hsc)
end
theorem callKd_eq_ret {x : R} {v : AV} {h : AHeap} {kp k : AV → AHeap → R} {Q : ARes → AHeap → Prop} (e : x = some (.ret v, h)) (hk : Wp (k v h) Q) : Wp (callKd x kp k) Q := by rw [e, callKd_ret]; exact hk
theorem callKd_eq_pan {x : R} {v : AV} {h : AHeap} {kp k : AV → AHeap → R} {Q : ARes → AHeap → Prop} (e : x = some (.panic v, h)) (hk : Wp (kp v h) Q) : Wp (callKd x kp k) Q := by rw [e, callKd_panic]; exact hk
theorem neqNil (h : AHeap) : opBin Try.prog h .neq 20 true (some .nifc) (some .nifc) = some (.val (.bool false), h) := by kernel_rfl
theorem neqPan (h : AHeap) (e : Int) (q : Nat) : opBin Try.prog h .neq 20 true (some (PanA e q)) (some .nifc) = some (.val (.bool true), h) := by kernel_rfl
theorem assertPan (h : AHeap) (e : Int) (q : Nat) : opAssert Try.prog h 91 true (some (PanA e q)) = some (.val (.tup [.agg [.int .i64 e, .int .i64 (q : Int)], .bool true]), h) := by kernel_rfl
abbrev TPtr : Nat := 68
abbrev TSpot : Nat := 27
section
variable {n d pc rd ft tx mo : Nat} {h h0 : AHeap} {u t : Bytes} {most : Int} {fc : List AV} {S : List Nat} {Q : ARes → AHeap → Prop} {ys : List RowT}
theorem recov_nil {call : CallF} {b : Nat} {H : AHeap} : pattern_guard_1_d call n (.ptr b 0) .nifc H = some (.ret (.tup []), H) := by
 apply Wp.eq
 unfold pattern_guard_1_d
 repeat (with_reducible first | refine Wp.join0 (fun _ _ => ?_) | (apply Wp.o; exact avBool_bool _) | (refine Wp.iff ?_ ?_; rfl) | (apply Wp.outK; exact neqNil _) | refine Wp.go0 (by assumption) ?_)
 exact Wp.ret ⟨rfl, rfl⟩
theorem recov_pan {call : CallF} {b : Nat} {H : AHeap} {l : List AV} (hl : l.length = 2) (Mx : Mem S h0 H ((b, TSpot, l) :: ys)) (e : Int) (q : Nat) : ∃ H', pattern_guard_1_d call n (.ptr b 0) (PanA e q) H = some (.ret (.tup []), H') ∧ Mem S h0 H' ((b, TSpot, [.int .i64 e, .int .i64 (q : Int)]) :: ys) := by
 apply Wp.ex
 unfold pattern_guard_1_d
 repeat (first | (with_reducible apply Wp.o; exact avBool_bool _) | ((with_reducible apply Wp.lr0 Mx); rfl) | ((with_reducible apply Wp.sa0 Mx); rfl; rfl; (rfl); clear Mx; intro _ Mx) | ((with_reducible apply Wp.mnew Mx); clear Mx; intro _ Mx) | (with_reducible first | refine Wp.join0 (fun _ _ => ?_) | refine Wp.l ?_ | (apply Wp.o; first | exact avAgg_agg _ | exact extT_0 _ _ | exact extT_1 _ _ _) | (refine Wp.ift ?_ ?_; rfl) | (refine Wp.iff ?_ ?_; exact Bool.not_true) | (apply Wp.outK; first | exact neqPan _ _ _ | exact assertPan _ _ _) | refine Wp.go0 (by assumption) ?_) | rw [newP_eq])
 refine Wp.sa1 Mx rfl hl rfl (fun h' M' => ?_)
 repeat ((with_reducible refine Wp.go0 (by assumption) ?_))
 exact Wp.ret ⟨rfl, M'.pop⟩
end
theorem elI : Abs.elemOf Try.prog 64 = some 3 := by kernel_rfl
theorem notI : notInt Try.prog 64 = true := by kernel_rfl
theorem cellsI : Try.prog.cellsOf 3 = 1 := by kernel_rfl
theorem fitI : fitB Try.prog 3 8 = true := by kernel_rfl
theorem elU : Abs.elemOf Try.prog 50 = some TU8 := by kernel_rfl
theorem notU : notInt Try.prog 50 = true := by kernel_rfl
theorem cellsU : Try.prog.cellsOf TU8 = 1 := by kernel_rfl
theorem fitU : fitB Try.prog TU8 1 = true := by kernel_rfl
theorem bldSl_int (h : AHeap) (v : Int) : bldSl Try.prog h 64 1 [(0, .int .i64 v)] = outNewS h 3 [.int .i64 v] 1 1 := by kernel_rfl
theorem conv_nsl (h : AHeap) : opConv Try.prog h 50 9 (some .nsl) = some (.val (strA []), h) := by kernel_rfl
theorem extT_3 (x y z w : AV) (l : List AV) : extT 3 (.tup (x :: y :: z :: w :: l)) = some w := rfl
noncomputable def rowsU (acc : Bytes) : List (List AV) := acc.map fun b => [AV.int .u8 (b.toNat : Int)]
noncomputable def rowsI (pl : List Nat) : List (List AV) := pl.map fun (q : Nat) => [AV.int .i64 ((q : Nat) : Int)]
theorem rowsU_flat (acc : Bytes) : (rowsU acc).flatten = bytesC acc := by
 unfold rowsU bytesC
 exact flat_one _ _
section
variable {n d p : Nat} {h h0 : AHeap} {u : Bytes} {Q : ARes → AHeap → Prop} {S : List Nat}
theorem conv_grow {acc : Bytes} {v : AV} {xs T : List RowT} (g : GrowT TU8 1 (rowsU acc) v T) (M : Mem S h0 h (xs ++ T)) : opConv Try.prog h 50 9 (some v) = some (.val (strA acc), h) := by
 rcases g.2 with ⟨h1, rfl, _⟩ | ⟨h1, c, rfl, rfl⟩
 ·have : acc = [] := by simpa [rowsU] using h1
  subst this
  exact conv_nsl h
 ·have hc := M.at.1
  rw [rowsU_flat] at hc
  have hl : (rowsU acc).length = acc.length := by simp [rowsU]
  rw [hl]
  refine conv_row (by kernel_rfl) (by kernel_rfl) ?_
  have := hc.part (o := 0) (n := (bytesC acc).length) (by omega)
  rwa [List.drop_zero, List.take_length, bytesC_length] at this
end
end Go.Proofs.Yteibdplpbcobbaa
