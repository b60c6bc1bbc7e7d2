/- Plain functions in place of the program's, and that their calls come to what they say. -/
import Derived.Test.YteibdplpbcobbaaFrame
import Derived.Test.YteibdplpbcobbaaAbs50
namespace Go.Proofs.Yteibdplpbcobbaa
open Go.RowKit Abs

noncomputable def ref09_byteAt_L1b (t0 : Bytes) (t1 : Int) (t18 : Bytes) (k25 : Int → AHeap → R) (self : Int → AHeap → R) (t10_42 : Int) (h_43 : AHeap) : R :=
  lett (fun (t41 : Bool) (h_47 : AHeap) =>
    ifB t41
    (
      lett (IntKind.i64.wrap (t10_42 + 1)) fun (t43 : Int) =>
      self t43 h_47)
    (
      k25 t10_42 h_47)) fun k46 =>
  lett (decide (t10_42 < (lenS t18))) fun (t22 : Bool) =>
  ifB t22
  (
    lett (IntKind.i64.wrap (t1 + t10_42)) fun (t26 : Int) =>
    lett (decide (t26 < (lenS t0))) fun (t29 : Bool) =>
    ifB t29
    (
      lett (IntKind.i64.wrap (t1 + t10_42)) fun (t35 : Int) =>
      obind (idxS t0 t35) fun t36 =>
      obind (idxS t18 t10_42) fun t39 =>
      lett ((t36 : Int) == t39) fun (t40 : Bool) =>
      k46 t40 h_43)
    (
      k46 false h_43))
  (
    k46 false h_43)
noncomputable def ref09_byteAt_L1 (t0 : Bytes) (t1 : Int) (t18 : Bytes) (k25 : Int → AHeap → R) : Nat → Int → AHeap → R := iterR (fun _ _ => none) (ref09_byteAt_L1b t0 t1 t18 k25)
theorem ref09_byteAt_L1_s (t0 : Bytes) (t1 : Int) (t18 : Bytes) (k25 : Int → AHeap → R) (m : Nat) : ref09_byteAt_L1 t0 t1 t18 k25 (m + 1) = ref09_byteAt_L1b t0 t1 t18 k25 (ref09_byteAt_L1 t0 t1 t18 k25 m) := rfl
noncomputable def ref09_byteAt_L0b (call : CallF) (n : Nat) (t0 : Bytes) (t1 : Int) (k6 : Int → AHeap → R) (self : Int → Int → AHeap → R) (t7_10 : Int) (t8 : Int) (h_11 : AHeap) : R :=
  lett (decide (t8 < 256)) fun (t13 : Bool) =>
  ifB t13
  (
    lett (IntKind.u8.wrap t8) fun (t17 : Int) =>
    callN (call 32 [.int .u8 t17] h_11) fun r18 h_19 =>
    obind (avStr r18) fun t18 =>
    lett (fun (t10 : Int) (h_26 : AHeap) =>
      lett ((t10 : Int) == (lenS t18)) fun (t47 : Bool) =>
      ifB t47
      (
        lett (IntKind.u8.wrap t8) fun (t49 : Int) =>
        lett (IntKind.i64.wrap (t1 + t10)) fun (t52 : Int) =>
        some (.ret (.tup [.int .u8 t49, .int .i64 t52, .bool true]), h_26))
      (
        lett (IntKind.i64.wrap (t1 + t10)) fun (t55 : Int) =>
        lett (decide (t55 > t7_10)) fun (t57 : Bool) =>
        lett (fun (t7_37 : Int) (h_38 : AHeap) =>
          lett (IntKind.i64.wrap (t8 + 1)) fun (t15 : Int) =>
          self t7_37 t15 h_38) fun k36 =>
        ifB t57
        (
          lett (IntKind.i64.wrap (t1 + t10)) fun (t60 : Int) =>
          k36 t60 h_26)
        (
          k36 t7_10 h_26))) fun k25 =>
    ref09_byteAt_L1 t0 t1 t18 k25 n 0 h_19)
  (
    k6 t7_10 h_11)
noncomputable def ref09_byteAt_L0 (call : CallF) (n : Nat) (t0 : Bytes) (t1 : Int) (k6 : Int → AHeap → R) : Nat → Int → Int → AHeap → R := iterR (fun _ _ _ => none) (ref09_byteAt_L0b call n t0 t1 k6)
theorem ref09_byteAt_L0_s (call : CallF) (n : Nat) (t0 : Bytes) (t1 : Int) (k6 : Int → AHeap → R) (m : Nat) : ref09_byteAt_L0 call n t0 t1 k6 (m + 1) = ref09_byteAt_L0b call n t0 t1 k6 (ref09_byteAt_L0 call n t0 t1 k6 m) := rfl
noncomputable def ref09_byteAt (call : CallF) (n : Nat) (t0 : Bytes) (t1 : Int) (h : AHeap) : R :=
  lett (fun (t7 : Int) (h_7 : AHeap) =>
    some (.ret (.tup [.int .u8 0, .int .i64 t7, .bool false]), h_7)) fun k6 =>
  ref09_byteAt_L0 call n t0 t1 k6 n t1 0 h
set_option maxHeartbeats 4000000 in
set_option maxRecDepth 20000 in
theorem ref09_byteAt_ok {call : CallF} (hc : SaysAll Try.prog call) {n : Nat} {t0 : Bytes} {t1 : Int} {h : AHeap} {rR : ARes} {hR : AHeap} (hF : ref09_byteAt call n t0 t1 h = some (rR, hR)) : Says Try.prog 38 [strA t0, .int .i64 t1] h rR hR := by
  unfold ref09_byteAt at hF
  refine says_of (fn := Try.f38) Try.func38 (c := codeOf Try.f38) (by kernel_rfl) (by kernel_rfl) (fun w0 m0 => ?_)
  refine W.weaken (l' := [(0, strA t0), (1, .int .i64 t1)]) (Fr.c (Fr.c Fr.n)) ?_
  refine W.s (fun K1 n1 e1 q1 p1 => ?_)
  refine W.r ?_
  refine WL.a (some 4) (.int .u8 0) h ?_
  refine WL.a (some 5) (.int .i64 0) h ?_
  refine WL.a (some 6) (.bool false) h ?_
  refine WL.n ?_
  refine Go.weaken (l' := [(0, strA t0), (1, .int .i64 t1)]) (Fr.c (Fr.c Fr.n)) ?_
  refine n1 ?_
  refine W.s (fun K2 n2 e2 q2 p2 => ?_)
  refine W.r ?_
  refine WL.a (some 11) (.int .i64 t1) h ?_
  refine WL.a (some 7) (.int .i64 t1) h ?_
  refine WL.n ?_
  refine Go.weaken (l' := [(0, strA t0), (1, .int .i64 t1), (7, .int .i64 t1)]) (Fr.c (Fr.c (Fr.c Fr.n))) ?_
  refine n2 ?_
  refine W.s (fun K3 n3 e3 q3 p3 => ?_)
  refine W.s (fun K4 n4 e4 q4 p4 => ?_)
  refine W.r ?_
  refine WL.a (some 8) (.int .i64 0) h ?_
  refine WL.n ?_
  refine Go.weaken (l' := [(0, strA t0), (1, .int .i64 t1), (7, .int .i64 t1), (8, .int .i64 0)]) (Fr.c (Fr.c (Fr.c (Fr.c Fr.n)))) ?_
  refine n4 ?_
  replace hF := lett_some hF; obtain ⟨k6, e6, hF⟩ := hF
  have J6 : ∀ (t7 : Int) (h_7 : AHeap), k6 t7 h_7 = some (rR, hR) → Go w0 m0 (Func.ntmps Try.f38) (K3 .normal) [(7, .int .i64 t7)] [] h_7 := by
    intro t7 h_7 hF
    rw [e6] at hF
    refine n3 ?_
    refine W.s (fun K8 n8 e8 q8 p8 => ?_)
    refine W.r ?_
    refine WL.a (some 61) (.int .i64 t7) h_7 ?_
    refine WL.a (some 4) (.int .u8 0) h_7 ?_
    refine WL.a (some 5) (.int .i64 t7) h_7 ?_
    refine WL.a (some 6) (.bool false) h_7 ?_
    refine WL.n ?_
    refine Go.weaken (l' := [(4, .int .u8 0), (5, .int .i64 t7), (6, .bool false)]) (Fr.c (Fr.c (Fr.c Fr.n))) ?_
    refine n8 ?_
    refine W.ret (by kernel_rfl) ?_
    obtain ⟨hF, hF2⟩ := ret_inj hF; subst hF; subst hF2
    exact leave_of (rs := [.tmp 4, .tmp 5, .tmp 6]) (vs := [.int .u8 0, .int .i64 t7, .bool false]) (by kernel_rfl) (res_tmp (by kernel_rfl) (res_tmp (by kernel_rfl) (res_tmp (by kernel_rfl) res_nil))) (by kernel_rfl)
  refine W.blockK (by kernel_rfl) (fun K5 n5 s5 o5 q5 p5 => ?_)
  refine W.loopK (by kernel_rfl) (fun I9 K9 b9 n9 e9 q9 p9 => ?_)
  have L9 : ∀ (m : Nat) (t7_10 : Int) (t8 : Int) (h_11 : AHeap), ref09_byteAt_L0 call n t0 t1 k6 m t7_10 t8 h_11 = some (rR, hR) → Go w0 m0 (Func.ntmps Try.f38) I9 [(0, strA t0), (1, .int .i64 t1), (7, .int .i64 t7_10), (8, .int .i64 t8)] [] h_11 := by
    intro m
    induction m with
    | zero => intro t7_10 t8 h_11 hF; cases hF
    | succ m ih9 =>
      intro t7_10 t8 h_11 hF
      rw [ref09_byteAt_L0_s] at hF; unfold ref09_byteAt_L0b at hF
      refine b9 ?_
      refine W.s (fun K12 n12 e12 q12 p12 => ?_)
      refine W.s (fun K13 n13 e13 q13 p13 => ?_)
      refine W.r ?_
      refine WL.a (some 12) (.int .i64 t8) h_11 ?_
      replace hF := lett_some hF; obtain ⟨t13, e14, hF⟩ := hF
      refine WL.val (d := (some 13)) (v := .bool t13) (h' := h_11) (by kernel_rfl) (by kernel_rfl) (val_of AV.bool e14 (by kernel_rfl)) ?_
      refine WL.n ?_
      refine Go.weaken (l' := [(0, strA t0), (1, .int .i64 t1), (7, .int .i64 t7_10), (8, .int .i64 t8), (13, .bool t13)]) (Fr.c (Fr.c (Fr.c (Fr.c (Fr.c Fr.n))))) ?_
      refine n13 ?_
      cases t13 with
      | true =>
        replace hF := ifB_t hF
        refine W.t ?_
        refine W.skip (by kernel_rfl) ?_
        refine n12 ?_
        refine W.s (fun K15 n15 e15 q15 p15 => ?_)
        refine W.blockK (by kernel_rfl) (fun K16 n16 s16 o16 q16 p16 => ?_)
        refine W.s (fun K17 n17 e17 q17 p17 => ?_)
        refine W.r ?_
        refine WL.a (some 16) (.int .i64 t8) h_11 ?_
        replace hF := lett_some hF; obtain ⟨t17, e18, hF⟩ := hF
        refine WL.val (d := (some 17)) (v := .int .u8 t17) (h' := h_11) (by kernel_rfl) (by kernel_rfl) (val_of (AV.int .u8) e18 (by kernel_rfl)) ?_
        replace hF := callN_some hF; obtain ⟨r18, h_19, e20, hF⟩ := hF
        replace hF := obind_some hF; obtain ⟨t18, c21, hF⟩ := hF
        have c21 := avStr_some c21
        subst c21
        refine WL.c (hc.ok w0) (some 18) e20 ?_
        refine WL.a (some 9) (strA t18) h_19 ?_
        refine WL.n ?_
        refine Go.weaken (l' := [(0, strA t0), (1, .int .i64 t1), (7, .int .i64 t7_10), (8, .int .i64 t8), (9, strA t18)]) (Fr.c (Fr.c (Fr.c (Fr.c (Fr.c Fr.n))))) ?_
        refine n17 ?_
        refine W.s (fun K22 n22 e22 q22 p22 => ?_)
        refine W.r ?_
        refine WL.a (some 10) (.int .i64 0) h_19 ?_
        refine WL.n ?_
        refine Go.weaken (l' := [(0, strA t0), (1, .int .i64 t1), (7, .int .i64 t7_10), (8, .int .i64 t8), (9, strA t18), (10, .int .i64 0)]) (Fr.c (Fr.c (Fr.c (Fr.c (Fr.c (Fr.c Fr.n)))))) ?_
        refine n22 ?_
        refine W.s (fun K23 n23 e23 q23 p23 => ?_)
        replace hF := lett_some hF; obtain ⟨k25, e25, hF⟩ := hF
        have J25 : ∀ (t10 : Int) (h_26 : AHeap), k25 t10 h_26 = some (rR, hR) → Go w0 m0 (Func.ntmps Try.f38) (K23 .normal) [(0, strA t0), (1, .int .i64 t1), (7, .int .i64 t7_10), (8, .int .i64 t8), (9, strA t18), (10, .int .i64 t10)] [] h_26 := by
          intro t10 h_26 hF
          rw [e25] at hF
          refine n23 ?_
          refine W.s (fun K27 n27 e27 q27 p27 => ?_)
          refine W.s (fun K28 n28 e28 q28 p28 => ?_)
          refine W.r ?_
          refine WL.a (some 44) (.int .i64 t10) h_26 ?_
          refine WL.a (some 45) (strA t18) h_26 ?_
          refine WL.a (some 46) (.int .i64 (lenS t18)) h_26 ?_
          replace hF := lett_some hF; obtain ⟨t47, e29, hF⟩ := hF
          refine WL.val (d := (some 47)) (v := .bool t47) (h' := h_26) (by kernel_rfl) (by kernel_rfl) (val_of AV.bool e29 (by kernel_rfl)) ?_
          refine WL.n ?_
          refine Go.weaken (l' := [(0, strA t0), (1, .int .i64 t1), (7, .int .i64 t7_10), (8, .int .i64 t8), (10, .int .i64 t10), (47, .bool t47)]) (Fr.c (Fr.c (Fr.c (Fr.c (Fr.c (Fr.c Fr.n)))))) ?_
          refine n28 ?_
          cases t47 with
          | true =>
            replace hF := ifB_t hF
            refine W.t ?_
            refine W.s (fun K30 n30 e30 q30 p30 => ?_)
            refine W.r ?_
            refine WL.a (some 48) (.int .i64 t8) h_26 ?_
            replace hF := lett_some hF; obtain ⟨t49, e31, hF⟩ := hF
            refine WL.val (d := (some 49)) (v := .int .u8 t49) (h' := h_26) (by kernel_rfl) (by kernel_rfl) (val_of (AV.int .u8) e31 (by kernel_rfl)) ?_
            refine WL.a (some 50) (.int .i64 t1) h_26 ?_
            refine WL.a (some 51) (.int .i64 t10) h_26 ?_
            replace hF := lett_some hF; obtain ⟨t52, e32, hF⟩ := hF
            refine WL.val (d := (some 52)) (v := .int .i64 t52) (h' := h_26) (by kernel_rfl) (by kernel_rfl) (val_of (AV.int .i64) e32 (by kernel_rfl)) ?_
            refine WL.a (some 4) (.int .u8 t49) h_26 ?_
            refine WL.a (some 5) (.int .i64 t52) h_26 ?_
            refine WL.a (some 6) (.bool true) h_26 ?_
            refine WL.n ?_
            refine Go.weaken (l' := [(4, .int .u8 t49), (5, .int .i64 t52), (6, .bool true)]) (Fr.c (Fr.c (Fr.c Fr.n))) ?_
            refine n30 ?_
            refine W.ret (by kernel_rfl) ?_
            refine q27 ?_
            refine q16 ?_
            refine q15 ?_
            refine q9 ?_
            refine q5 ?_
            refine q3 ?_
            obtain ⟨hF, hF2⟩ := ret_inj hF; subst hF; subst hF2
            exact leave_of (rs := [.tmp 4, .tmp 5, .tmp 6]) (vs := [.int .u8 t49, .int .i64 t52, .bool true]) (by kernel_rfl) (res_tmp (by kernel_rfl) (res_tmp (by kernel_rfl) (res_tmp (by kernel_rfl) res_nil))) (by kernel_rfl)
          | false =>
            replace hF := ifB_f hF
            refine W.f ?_
            refine W.skip (by kernel_rfl) ?_
            refine n27 ?_
            refine W.s (fun K33 n33 e33 q33 p33 => ?_)
            refine W.r ?_
            refine WL.a (some 53) (.int .i64 t1) h_26 ?_
            refine WL.a (some 54) (.int .i64 t10) h_26 ?_
            replace hF := lett_some hF; obtain ⟨t55, e34, hF⟩ := hF
            refine WL.val (d := (some 55)) (v := .int .i64 t55) (h' := h_26) (by kernel_rfl) (by kernel_rfl) (val_of (AV.int .i64) e34 (by kernel_rfl)) ?_
            refine WL.a (some 56) (.int .i64 t7_10) h_26 ?_
            replace hF := lett_some hF; obtain ⟨t57, e35, hF⟩ := hF
            refine WL.val (d := (some 57)) (v := .bool t57) (h' := h_26) (by kernel_rfl) (by kernel_rfl) (val_of AV.bool e35 (by kernel_rfl)) ?_
            refine WL.n ?_
            refine Go.weaken (l' := [(0, strA t0), (1, .int .i64 t1), (7, .int .i64 t7_10), (8, .int .i64 t8), (10, .int .i64 t10), (57, .bool t57)]) (Fr.c (Fr.c (Fr.c (Fr.c (Fr.c (Fr.c Fr.n)))))) ?_
            refine n33 ?_
            replace hF := lett_some hF; obtain ⟨k36, e36, hF⟩ := hF
            have J36 : ∀ (t7_37 : Int) (h_38 : AHeap), k36 t7_37 h_38 = some (rR, hR) → Go w0 m0 (Func.ntmps Try.f38) (K16 .normal) [(0, strA t0), (1, .int .i64 t1), (7, .int .i64 t7_37), (8, .int .i64 t8)] [] h_38 := by
              intro t7_37 h_38 hF
              rw [e36] at hF
              refine n16 ?_
              refine n15 ?_
              refine W.r ?_
              refine WL.a (some 14) (.int .i64 t8) h_38 ?_
              replace hF := lett_some hF; obtain ⟨t15, e39, hF⟩ := hF
              refine WL.val (d := (some 15)) (v := .int .i64 t15) (h' := h_38) (by kernel_rfl) (by kernel_rfl) (val_of (AV.int .i64) e39 (by kernel_rfl)) ?_
              refine WL.a (some 8) (.int .i64 t15) h_38 ?_
              refine WL.n ?_
              refine Go.weaken (l' := [(0, strA t0), (1, .int .i64 t1), (7, .int .i64 t7_37), (8, .int .i64 t15)]) (Fr.c (Fr.c (Fr.c (Fr.c Fr.n)))) ?_
              refine n9 ?_
              exact Go.weaken (Fr.c (Fr.c (Fr.c (Fr.c Fr.n)))) (ih9 _ _ _ hF)
            cases t57 with
            | true =>
              replace hF := ifB_t hF
              refine W.t ?_
              refine W.r ?_
              refine WL.a (some 58) (.int .i64 t1) h_26 ?_
              refine WL.a (some 59) (.int .i64 t10) h_26 ?_
              replace hF := lett_some hF; obtain ⟨t60, e40, hF⟩ := hF
              refine WL.val (d := (some 60)) (v := .int .i64 t60) (h' := h_26) (by kernel_rfl) (by kernel_rfl) (val_of (AV.int .i64) e40 (by kernel_rfl)) ?_
              refine WL.a (some 7) (.int .i64 t60) h_26 ?_
              refine WL.n ?_
              refine Go.weaken (l' := [(0, strA t0), (1, .int .i64 t1), (7, .int .i64 t60), (8, .int .i64 t8)]) (Fr.c (Fr.c (Fr.c (Fr.c Fr.n)))) ?_
              exact Go.weaken (Fr.c (Fr.c (Fr.c (Fr.c Fr.n)))) (J36 _ _ hF)
            | false =>
              replace hF := ifB_f hF
              refine W.f ?_
              refine W.skip (by kernel_rfl) ?_
              exact Go.weaken (Fr.c (Fr.c (Fr.c (Fr.c Fr.n)))) (J36 _ _ hF)
        refine W.blockK (by kernel_rfl) (fun K24 n24 s24 o24 q24 p24 => ?_)
        refine W.loopK (by kernel_rfl) (fun I41 K41 b41 n41 e41 q41 p41 => ?_)
        have L41 : ∀ (m : Nat) (t10_42 : Int) (h_43 : AHeap), ref09_byteAt_L1 t0 t1 t18 k25 m t10_42 h_43 = some (rR, hR) → Go w0 m0 (Func.ntmps Try.f38) I41 [(0, strA t0), (1, .int .i64 t1), (7, .int .i64 t7_10), (8, .int .i64 t8), (9, strA t18), (10, .int .i64 t10_42)] [] h_43 := by
          intro m
          induction m with
          | zero => intro t10_42 h_43 hF; cases hF
          | succ m ih41 =>
            intro t10_42 h_43 hF
            rw [ref09_byteAt_L1_s] at hF; unfold ref09_byteAt_L1b at hF
            refine b41 ?_
            refine W.s (fun K44 n44 e44 q44 p44 => ?_)
            refine W.s (fun K45 n45 e45 q45 p45 => ?_)
            replace hF := lett_some hF; obtain ⟨k46, e46, hF⟩ := hF
            have J46 : ∀ (t41 : Bool) (h_47 : AHeap), k46 t41 h_47 = some (rR, hR) → Go w0 m0 (Func.ntmps Try.f38) (K45 .normal) [(0, strA t0), (1, .int .i64 t1), (7, .int .i64 t7_10), (8, .int .i64 t8), (9, strA t18), (10, .int .i64 t10_42), (41, .bool t41)] [] h_47 := by
              intro t41 h_47 hF
              rw [e46] at hF
              refine n45 ?_
              cases t41 with
              | true =>
                replace hF := ifB_t hF
                refine W.t ?_
                refine W.skip (by kernel_rfl) ?_
                refine n44 ?_
                refine W.blockK (by kernel_rfl) (fun K48 n48 s48 o48 q48 p48 => ?_)
                refine W.r ?_
                refine WL.a (some 42) (.int .i64 t10_42) h_47 ?_
                replace hF := lett_some hF; obtain ⟨t43, e49, hF⟩ := hF
                refine WL.val (d := (some 43)) (v := .int .i64 t43) (h' := h_47) (by kernel_rfl) (by kernel_rfl) (val_of (AV.int .i64) e49 (by kernel_rfl)) ?_
                refine WL.a (some 10) (.int .i64 t43) h_47 ?_
                refine WL.n ?_
                refine Go.weaken (l' := [(0, strA t0), (1, .int .i64 t1), (7, .int .i64 t7_10), (8, .int .i64 t8), (9, strA t18), (10, .int .i64 t43)]) (Fr.c (Fr.c (Fr.c (Fr.c (Fr.c (Fr.c Fr.n)))))) ?_
                refine n48 ?_
                refine n41 ?_
                exact Go.weaken (Fr.c (Fr.c (Fr.c (Fr.c (Fr.c (Fr.c Fr.n)))))) (ih41 _ _ hF)
              | false =>
                replace hF := ifB_f hF
                refine W.f ?_
                refine W.exit (by kernel_rfl) ?_
                refine e44 ?_
                refine e41 ?_
                refine s24 (by kernel_rfl) ?_
                exact Go.weaken (Fr.c (Fr.c (Fr.c (Fr.c (Fr.c (Fr.c Fr.n)))))) (J25 _ _ hF)
            refine W.draw (by kernel_rfl) (hc.ok w0) (plan := [0, 1, 2, 3, 4, 5, 6, 7, 8, 9, 10, 11, 12, 13, 14, 15, 16, 17, 18, 19, 20, 21, 22]) (by kernel_rfl) (by kernel_rfl) (by kernel_rfl) ?_
            refine WD.a 0 (some 19) (.int .i64 t10_42) h_43 ?_
            refine WD.a 0 (some 20) (strA t18) h_43 ?_
            refine WD.a 0 (some 21) (.int .i64 (lenS t18)) h_43 ?_
            replace hF := lett_some hF; obtain ⟨t22, e50, hF⟩ := hF
            refine WD.val (d := (some 22)) (v := .bool t22) (h' := h_43) (by kernel_rfl) (by kernel_rfl) (val_of AV.bool e50 (by kernel_rfl)) (k := 0) (by kernel_rfl) (fun e => absurd e (by decide)) (by decide) ?_
            refine WD.a 0 (some 23) (.bool t22) h_43 ?_
            cases t22 with
            | true =>
              replace hF := ifB_t hF
              refine WD.a 0 (some 24) (.int .i64 t1) h_43 ?_
              refine WD.a 0 (some 25) (.int .i64 t10_42) h_43 ?_
              replace hF := lett_some hF; obtain ⟨t26, e51, hF⟩ := hF
              refine WD.val (d := (some 26)) (v := .int .i64 t26) (h' := h_43) (by kernel_rfl) (by kernel_rfl) (val_of (AV.int .i64) e51 (by kernel_rfl)) (k := 0) (by kernel_rfl) (fun e => absurd e (by decide)) (by decide) ?_
              refine WD.a 0 (some 27) (strA t0) h_43 ?_
              refine WD.a 0 (some 28) (.int .i64 (lenS t0)) h_43 ?_
              replace hF := lett_some hF; obtain ⟨t29, e52, hF⟩ := hF
              refine WD.val (d := (some 29)) (v := .bool t29) (h' := h_43) (by kernel_rfl) (by kernel_rfl) (val_of AV.bool e52 (by kernel_rfl)) (k := 0) (by kernel_rfl) (fun e => absurd e (by decide)) (by decide) ?_
              refine WD.a 0 (some 30) (.bool t29) h_43 ?_
              refine WD.a 0 (some 31) (.bool t29) h_43 ?_
              cases t29 with
              | true =>
                replace hF := ifB_t hF
                refine WD.a 0 (some 32) (strA t0) h_43 ?_
                refine WD.a 0 (some 33) (.int .i64 t1) h_43 ?_
                refine WD.a 0 (some 34) (.int .i64 t10_42) h_43 ?_
                replace hF := lett_some hF; obtain ⟨t35, e53, hF⟩ := hF
                refine WD.val (d := (some 35)) (v := .int .i64 t35) (h' := h_43) (by kernel_rfl) (by kernel_rfl) (val_of (AV.int .i64) e53 (by kernel_rfl)) (k := 0) (by kernel_rfl) (fun e => absurd e (by decide)) (by decide) ?_
                replace hF := obind_some hF; obtain ⟨t36, e54, hF⟩ := hF
                refine WD.b 0 (some 36) (.int .u8 t36) h_43 (index_str (P := Try.prog) (h := h_43) (t := 9) (k := .i64) (by kernel_rfl) e54) ?_
                refine WD.a 0 (some 37) (strA t18) h_43 ?_
                refine WD.a 0 (some 38) (.int .i64 t10_42) h_43 ?_
                replace hF := obind_some hF; obtain ⟨t39, e55, hF⟩ := hF
                refine WD.b 0 (some 39) (.int .u8 t39) h_43 (index_str (P := Try.prog) (h := h_43) (t := 9) (k := .i64) (by kernel_rfl) e55) ?_
                replace hF := lett_some hF; obtain ⟨t40, e56, hF⟩ := hF
                refine WD.val (d := (some 40)) (v := .bool t40) (h' := h_43) (by kernel_rfl) (by kernel_rfl) (val_of AV.bool e56 (by kernel_rfl)) (k := 0) (by kernel_rfl) (fun e => absurd e (by decide)) (by decide) ?_
                refine WD.a 0 (some 41) (.bool t40) h_43 ?_
                refine WD.nil ?_
                exact Go.weaken (Fr.c (Fr.c (Fr.c (Fr.c (Fr.c (Fr.c (Fr.c Fr.n))))))) (J46 _ _ hF)
              | false =>
                replace hF := ifB_f hF
                refine WD.not (d := (some 32)) (by kernel_rfl) (by kernel_rfl) (k := 0) (by kernel_rfl) (fun e => absurd e (by decide)) (by decide) ?_
                refine WD.not (d := (some 33)) (by kernel_rfl) (by kernel_rfl) (k := 0) (by kernel_rfl) (fun e => absurd e (by decide)) (by decide) ?_
                refine WD.not (d := (some 34)) (by kernel_rfl) (by kernel_rfl) (k := 0) (by kernel_rfl) (fun e => absurd e (by decide)) (by decide) ?_
                refine WD.not (d := (some 35)) (by kernel_rfl) (by kernel_rfl) (k := 0) (by kernel_rfl) (fun e => absurd e (by decide)) (by decide) ?_
                refine WD.not (d := (some 36)) (by kernel_rfl) (by kernel_rfl) (k := 0) (by kernel_rfl) (fun e => absurd e (by decide)) (by decide) ?_
                refine WD.not (d := (some 37)) (by kernel_rfl) (by kernel_rfl) (k := 0) (by kernel_rfl) (fun e => absurd e (by decide)) (by decide) ?_
                refine WD.not (d := (some 38)) (by kernel_rfl) (by kernel_rfl) (k := 0) (by kernel_rfl) (fun e => absurd e (by decide)) (by decide) ?_
                refine WD.not (d := (some 39)) (by kernel_rfl) (by kernel_rfl) (k := 0) (by kernel_rfl) (fun e => absurd e (by decide)) (by decide) ?_
                refine WD.not (d := (some 40)) (by kernel_rfl) (by kernel_rfl) (k := 0) (by kernel_rfl) (fun e => absurd e (by decide)) (by decide) ?_
                refine WD.a 0 (some 41) (.bool false) h_43 ?_
                refine WD.nil ?_
                exact Go.weaken (Fr.c (Fr.c (Fr.c (Fr.c (Fr.c (Fr.c (Fr.c Fr.n))))))) (J46 _ _ hF)
            | false =>
              replace hF := ifB_f hF
              refine WD.not (d := (some 24)) (by kernel_rfl) (by kernel_rfl) (k := 0) (by kernel_rfl) (fun e => absurd e (by decide)) (by decide) ?_
              refine WD.not (d := (some 25)) (by kernel_rfl) (by kernel_rfl) (k := 0) (by kernel_rfl) (fun e => absurd e (by decide)) (by decide) ?_
              refine WD.not (d := (some 26)) (by kernel_rfl) (by kernel_rfl) (k := 0) (by kernel_rfl) (fun e => absurd e (by decide)) (by decide) ?_
              refine WD.not (d := (some 27)) (by kernel_rfl) (by kernel_rfl) (k := 0) (by kernel_rfl) (fun e => absurd e (by decide)) (by decide) ?_
              refine WD.not (d := (some 28)) (by kernel_rfl) (by kernel_rfl) (k := 0) (by kernel_rfl) (fun e => absurd e (by decide)) (by decide) ?_
              refine WD.not (d := (some 29)) (by kernel_rfl) (by kernel_rfl) (k := 0) (by kernel_rfl) (fun e => absurd e (by decide)) (by decide) ?_
              refine WD.a 0 (some 30) (.bool false) h_43 ?_
              refine WD.a 0 (some 31) (.bool false) h_43 ?_
              refine WD.not (d := (some 32)) (by kernel_rfl) (by kernel_rfl) (k := 0) (by kernel_rfl) (fun e => absurd e (by decide)) (by decide) ?_
              refine WD.not (d := (some 33)) (by kernel_rfl) (by kernel_rfl) (k := 0) (by kernel_rfl) (fun e => absurd e (by decide)) (by decide) ?_
              refine WD.not (d := (some 34)) (by kernel_rfl) (by kernel_rfl) (k := 0) (by kernel_rfl) (fun e => absurd e (by decide)) (by decide) ?_
              refine WD.not (d := (some 35)) (by kernel_rfl) (by kernel_rfl) (k := 0) (by kernel_rfl) (fun e => absurd e (by decide)) (by decide) ?_
              refine WD.not (d := (some 36)) (by kernel_rfl) (by kernel_rfl) (k := 0) (by kernel_rfl) (fun e => absurd e (by decide)) (by decide) ?_
              refine WD.not (d := (some 37)) (by kernel_rfl) (by kernel_rfl) (k := 0) (by kernel_rfl) (fun e => absurd e (by decide)) (by decide) ?_
              refine WD.not (d := (some 38)) (by kernel_rfl) (by kernel_rfl) (k := 0) (by kernel_rfl) (fun e => absurd e (by decide)) (by decide) ?_
              refine WD.not (d := (some 39)) (by kernel_rfl) (by kernel_rfl) (k := 0) (by kernel_rfl) (fun e => absurd e (by decide)) (by decide) ?_
              refine WD.not (d := (some 40)) (by kernel_rfl) (by kernel_rfl) (k := 0) (by kernel_rfl) (fun e => absurd e (by decide)) (by decide) ?_
              refine WD.a 0 (some 41) (.bool false) h_43 ?_
              refine WD.nil ?_
              exact Go.weaken (Fr.c (Fr.c (Fr.c (Fr.c (Fr.c (Fr.c (Fr.c Fr.n))))))) (J46 _ _ hF)
        exact Go.weaken (Fr.c (Fr.c (Fr.c (Fr.c (Fr.c (Fr.c Fr.n)))))) (L41 _ _ _ hF)
      | false =>
        replace hF := ifB_f hF
        refine W.f ?_
        refine W.exit (by kernel_rfl) ?_
        refine e12 ?_
        refine e9 ?_
        refine s5 (by kernel_rfl) ?_
        exact Go.weaken (Fr.c Fr.n) (J6 _ _ hF)
  exact Go.weaken (Fr.c (Fr.c (Fr.c (Fr.c Fr.n)))) (L9 _ _ _ _ hF)
noncomputable def ref09_byteAt_fn (call : CallF) (n : Nat) : FnT := fun args h => match args with
  | [x0, x1] => obind (avStr x0) fun t0 => obind (avInt .i64 x1) fun t1 => ref09_byteAt call n t0 t1 h
  | _ => none
set_option maxRecDepth 100000 in
theorem ref09_byteAt_fn_eq (call : CallF) (n : Nat) (t0 : Bytes) (t1 : Int) (h : AHeap) : ref09_byteAt_fn call n [strA t0, .int .i64 t1] h = ref09_byteAt call n t0 t1 h :=
  (Eq.trans (obind_eq (fun t0 => obind (avInt .i64 (.int .i64 t1)) fun t1 => ref09_byteAt call n t0 t1 h) (avStr_str t0)) (Eq.trans (obind_eq (fun t1 => ref09_byteAt call n t0 t1 h) (avInt_int .i64 t1)) rfl))
theorem ref09_byteAt_holds {call : CallF} (hc : SaysAll Try.prog call) (n : Nat) : Holds Try.prog 38 (ref09_byteAt_fn call n) := by
  intro args h r h2 e
  unfold ref09_byteAt_fn at e
  split at e
  · replace e := obind_some e; obtain ⟨t0, c0, e⟩ := e; have c0 := avStr_some c0; subst c0
    replace e := obind_some e; obtain ⟨t1, c1, e⟩ := e; have c1 := avInt_some c1; subst c1
    exact ref09_byteAt_ok hc e
  · cases e

noncomputable def ref09_Scan_L0b (call : CallF) (t0 : Bytes) (self : Int → AV → AV → AHeap → R) (t1_15 : Int) (t8 : AV) (t9 : AV) (h_16 : AHeap) : R :=
  outK (bldSl Try.prog h_16 64 1 [(0, .int .i64 t1_15)]) fun v28 h_19 =>
  outK (opAppend Try.prog h_19 64 64 t9 v28) fun v29 h_21 =>
  lett (decide (t1_15 < (lenS t0))) fun (t33 : Bool) =>
  lett (fun (t39 : Bool) (h_26 : AHeap) =>
    ifB t39
    (
      outK (opConv Try.prog h_26 50 9 (some t8)) fun v41 h_30 =>
      obind (avStr v41) fun t41 =>
      lett (IntKind.i64.wrap (t1_15 + 1)) fun (t44 : Int) =>
      some (.ret (.tup [strA t41, v29, .int .i64 t44, .bool true]), h_30))
    (
      callN (call 38 [strA t0, .int .i64 t1_15] h_26) fun r48 h_35 =>
      obind (extT 0 r48) fun v49 =>
      obind (avInt .u8 v49) fun t49 =>
      obind (extT 1 r48) fun v50 =>
      obind (avInt .i64 v50) fun t50 =>
      obind (extT 2 r48) fun v51 =>
      obind (avBool v51) fun t51 =>
      lett (!t51) fun (t53 : Bool) =>
      ifB t53
      (
        some (.ret (.tup [strA ([] : Bytes), AV.nsl, .int .i64 t50, .bool false]), h_35))
      (
        outK (bldSl Try.prog h_35 50 1 [(0, .int .u8 t49)]) fun v57 h_48 =>
        outK (opAppend Try.prog h_48 50 50 t8 v57) fun v58 h_50 =>
        self t50 v58 v29 h_50))) fun j39 =>
  ifB t33
  (
    obind (idxS t0 t1_15) fun t37 =>
    lett ((t37 : Int) == 34) fun (t38 : Bool) =>
    j39 t38 h_21)
  (
    j39 false h_21)
noncomputable def ref09_Scan_L0 (call : CallF) (t0 : Bytes) : Nat → Int → AV → AV → AHeap → R := iterR (fun _ _ _ _ => none) (ref09_Scan_L0b call t0)
theorem ref09_Scan_L0_s (call : CallF) (t0 : Bytes) (m : Nat) : ref09_Scan_L0 call t0 (m + 1) = ref09_Scan_L0b call t0 (ref09_Scan_L0 call t0 m) := rfl
noncomputable def ref09_Scan (call : CallF) (n : Nat) (t0 : Bytes) (t1 : Int) (h : AHeap) : R :=
  lett (decide (t1 ≥ (lenS t0))) fun (t16 : Bool) =>
  lett (fun (t22 : Bool) (h_5 : AHeap) =>
    ifB t22
    (
      some (.ret (.tup [strA ([] : Bytes), AV.nsl, .int .i64 t1, .bool false]), h_5))
    (
      lett (IntKind.i64.wrap (t1 + 1)) fun (t25 : Int) =>
      ref09_Scan_L0 call t0 n t25 AV.nsl AV.nsl h_5)) fun j22 =>
  ifB t16
  (
    j22 true h)
  (
    obind (idxS t0 t1) fun t20 =>
    lett ((t20 : Int) != 34) fun (t21 : Bool) =>
    j22 t21 h)
set_option maxHeartbeats 4000000 in
set_option maxRecDepth 20000 in
theorem ref09_Scan_ok {call : CallF} (hc : SaysAll Try.prog call) {n : Nat} {t0 : Bytes} {t1 : Int} {h : AHeap} {rR : ARes} {hR : AHeap} (hF : ref09_Scan call n t0 t1 h = some (rR, hR)) : Says Try.prog 33 [strA t0, .int .i64 t1] h rR hR := by
  unfold ref09_Scan at hF
  refine says_of (fn := Try.f33) Try.func33 (c := codeOf Try.f33) (by kernel_rfl) (by kernel_rfl) (fun w0 m0 => ?_)
  refine W.weaken (l' := [(0, strA t0), (1, .int .i64 t1)]) (Fr.c (Fr.c Fr.n)) ?_
  refine W.s (fun K1 n1 e1 q1 p1 => ?_)
  refine W.r ?_
  refine WL.a (some 4) (strA ([] : Bytes)) h ?_
  refine WL.a (some 5) AV.nsl h ?_
  refine WL.a (some 6) (.int .i64 0) h ?_
  refine WL.a (some 7) (.bool false) h ?_
  refine WL.n ?_
  refine Go.weaken (l' := [(0, strA t0), (1, .int .i64 t1)]) (Fr.c (Fr.c Fr.n)) ?_
  refine n1 ?_
  refine W.s (fun K2 n2 e2 q2 p2 => ?_)
  refine W.s (fun K3 n3 e3 q3 p3 => ?_)
  refine W.r ?_
  refine WL.a (some 13) (.int .i64 t1) h ?_
  refine WL.a (some 14) (strA t0) h ?_
  refine WL.a (some 15) (.int .i64 (lenS t0)) h ?_
  replace hF := lett_some hF; obtain ⟨t16, e4, hF⟩ := hF
  refine WL.val (d := (some 16)) (v := .bool t16) (h' := h) (by kernel_rfl) (by kernel_rfl) (val_of AV.bool e4 (by kernel_rfl)) ?_
  refine WL.a (some 17) (.bool t16) h ?_
  replace hF := lett_some hF; obtain ⟨j22, e6, hF⟩ := hF
  have J7 : ∀ (t22 : Bool) (h_5 : AHeap), j22 t22 h_5 = some (rR, hR) → WL Try.prog w0 m0 (Func.ntmps Try.f33) (Code.ops (Code.p1 (Code.p1 (Code.p2 (codeOf Try.f33))))) 10 K3 [(0, strA t0), (1, .int .i64 t1), (22, .bool t22)] [] h_5 := by
    intro t22 h_5 hF
    rw [e6] at hF
    refine WL.n ?_
    refine Go.weaken (l' := [(0, strA t0), (1, .int .i64 t1), (22, .bool t22)]) (Fr.c (Fr.c (Fr.c Fr.n))) ?_
    refine n3 ?_
    cases t22 with
    | true =>
      replace hF := ifB_t hF
      refine W.t ?_
      refine W.s (fun K8 n8 e8 q8 p8 => ?_)
      refine W.r ?_
      refine WL.a (some 23) (.int .i64 t1) h_5 ?_
      refine WL.a (some 4) (strA ([] : Bytes)) h_5 ?_
      refine WL.a (some 5) AV.nsl h_5 ?_
      refine WL.a (some 6) (.int .i64 t1) h_5 ?_
      refine WL.a (some 7) (.bool false) h_5 ?_
      refine WL.n ?_
      refine Go.weaken (l' := [(4, strA ([] : Bytes)), (5, AV.nsl), (6, .int .i64 t1), (7, .bool false)]) (Fr.c (Fr.c (Fr.c (Fr.c Fr.n)))) ?_
      refine n8 ?_
      refine W.ret (by kernel_rfl) ?_
      refine q2 ?_
      obtain ⟨hF, hF2⟩ := ret_inj hF; subst hF; subst hF2
      exact leave_of (rs := [.tmp 4, .tmp 5, .tmp 6, .tmp 7]) (vs := [strA ([] : Bytes), AV.nsl, .int .i64 t1, .bool false]) (by kernel_rfl) (res_tmp (by kernel_rfl) (res_tmp (by kernel_rfl) (res_tmp (by kernel_rfl) (res_tmp (by kernel_rfl) res_nil)))) (by kernel_rfl)
    | false =>
      replace hF := ifB_f hF
      refine W.f ?_
      refine W.skip (by kernel_rfl) ?_
      refine n2 ?_
      refine W.s (fun K9 n9 e9 q9 p9 => ?_)
      refine W.r ?_
      refine WL.a (some 24) (.int .i64 t1) h_5 ?_
      replace hF := lett_some hF; obtain ⟨t25, e10, hF⟩ := hF
      refine WL.val (d := (some 25)) (v := .int .i64 t25) (h' := h_5) (by kernel_rfl) (by kernel_rfl) (val_of (AV.int .i64) e10 (by kernel_rfl)) ?_
      refine WL.a (some 1) (.int .i64 t25) h_5 ?_
      refine WL.n ?_
      refine Go.weaken (l' := [(0, strA t0), (1, .int .i64 t25)]) (Fr.c (Fr.c Fr.n)) ?_
      refine n9 ?_
      refine W.s (fun K11 n11 e11 q11 p11 => ?_)
      refine W.r ?_
      refine WL.a (some 8) AV.nsl h_5 ?_
      refine WL.n ?_
      refine Go.weaken (l' := [(0, strA t0), (1, .int .i64 t25), (8, AV.nsl)]) (Fr.c (Fr.c (Fr.c Fr.n))) ?_
      refine n11 ?_
      refine W.s (fun K12 n12 e12 q12 p12 => ?_)
      refine W.r ?_
      refine WL.a (some 9) AV.nsl h_5 ?_
      refine WL.n ?_
      refine Go.weaken (l' := [(0, strA t0), (1, .int .i64 t25), (8, AV.nsl), (9, AV.nsl)]) (Fr.c (Fr.c (Fr.c (Fr.c Fr.n)))) ?_
      refine n12 ?_
      refine W.blockK (by kernel_rfl) (fun K13 n13 s13 o13 q13 p13 => ?_)
      refine W.loopK (by kernel_rfl) (fun I14 K14 b14 n14 e14 q14 p14 => ?_)
      have L14 : ∀ (m : Nat) (t1_15 : Int) (t8 : AV) (t9 : AV) (h_16 : AHeap), ref09_Scan_L0 call t0 m t1_15 t8 t9 h_16 = some (rR, hR) → Go w0 m0 (Func.ntmps Try.f33) I14 [(0, strA t0), (1, .int .i64 t1_15), (8, t8), (9, t9)] [] h_16 := by
        intro m
        induction m with
        | zero => intro t1_15 t8 t9 h_16 hF; cases hF
        | succ m ih14 =>
          intro t1_15 t8 t9 h_16 hF
          rw [ref09_Scan_L0_s] at hF; unfold ref09_Scan_L0b at hF
          refine b14 ?_
          refine W.blockK (by kernel_rfl) (fun K17 n17 s17 o17 q17 p17 => ?_)
          refine W.s (fun K18 n18 e18 q18 p18 => ?_)
          refine W.r ?_
          refine WL.a (some 26) t9 h_16 ?_
          refine WL.a (some 27) (.int .i64 t1_15) h_16 ?_
          replace hF := outK_some hF; obtain ⟨v28, h_19, e20, hF⟩ := hF
          refine WL.b (some 28) v28 h_19 e20 ?_
          replace hF := outK_some hF; obtain ⟨v29, h_21, e22, hF⟩ := hF
          refine WL.b (some 29) v29 h_21 e22 ?_
          refine WL.a (some 9) v29 h_21 ?_
          refine WL.n ?_
          refine Go.weaken (l' := [(0, strA t0), (1, .int .i64 t1_15), (8, t8), (9, v29)]) (Fr.c (Fr.c (Fr.c (Fr.c Fr.n)))) ?_
          refine n18 ?_
          refine W.s (fun K23 n23 e23 q23 p23 => ?_)
          refine W.s (fun K24 n24 e24 q24 p24 => ?_)
          refine W.r ?_
          refine WL.a (some 30) (.int .i64 t1_15) h_21 ?_
          refine WL.a (some 31) (strA t0) h_21 ?_
          refine WL.a (some 32) (.int .i64 (lenS t0)) h_21 ?_
          replace hF := lett_some hF; obtain ⟨t33, e25, hF⟩ := hF
          refine WL.val (d := (some 33)) (v := .bool t33) (h' := h_21) (by kernel_rfl) (by kernel_rfl) (val_of AV.bool e25 (by kernel_rfl)) ?_
          refine WL.a (some 34) (.bool t33) h_21 ?_
          replace hF := lett_some hF; obtain ⟨j39, e27, hF⟩ := hF
          have J28 : ∀ (t39 : Bool) (h_26 : AHeap), j39 t39 h_26 = some (rR, hR) → WL Try.prog w0 m0 (Func.ntmps Try.f33) (Code.ops (Code.p1 (Code.p1 (Code.p2 (Code.p1 (Code.p1 (Code.p1 (Code.p2 (Code.p2 (Code.p2 (Code.p2 (Code.p2 (codeOf Try.f33))))))))))))) 10 K24 [(0, strA t0), (1, .int .i64 t1_15), (8, t8), (9, v29), (39, .bool t39)] [] h_26 := by
            intro t39 h_26 hF
            rw [e27] at hF
            refine WL.n ?_
            refine Go.weaken (l' := [(0, strA t0), (1, .int .i64 t1_15), (8, t8), (9, v29), (39, .bool t39)]) (Fr.c (Fr.c (Fr.c (Fr.c (Fr.c Fr.n))))) ?_
            refine n24 ?_
            cases t39 with
            | true =>
              replace hF := ifB_t hF
              refine W.t ?_
              refine W.s (fun K29 n29 e29 q29 p29 => ?_)
              refine W.r ?_
              refine WL.a (some 40) t8 h_26 ?_
              replace hF := outK_some hF; obtain ⟨v41, h_30, e31, hF⟩ := hF
              replace hF := obind_some hF; obtain ⟨t41, c32, hF⟩ := hF
              have c32 := avStr_some c32
              subst c32
              refine WL.b (some 41) (strA t41) h_30 e31 ?_
              refine WL.a (some 42) v29 h_30 ?_
              refine WL.a (some 43) (.int .i64 t1_15) h_30 ?_
              replace hF := lett_some hF; obtain ⟨t44, e33, hF⟩ := hF
              refine WL.val (d := (some 44)) (v := .int .i64 t44) (h' := h_30) (by kernel_rfl) (by kernel_rfl) (val_of (AV.int .i64) e33 (by kernel_rfl)) ?_
              refine WL.a (some 4) (strA t41) h_30 ?_
              refine WL.a (some 5) v29 h_30 ?_
              refine WL.a (some 6) (.int .i64 t44) h_30 ?_
              refine WL.a (some 7) (.bool true) h_30 ?_
              refine WL.n ?_
              refine Go.weaken (l' := [(4, strA t41), (5, v29), (6, .int .i64 t44), (7, .bool true)]) (Fr.c (Fr.c (Fr.c (Fr.c Fr.n)))) ?_
              refine n29 ?_
              refine W.ret (by kernel_rfl) ?_
              refine q23 ?_
              refine q17 ?_
              refine q14 ?_
              refine q13 ?_
              obtain ⟨hF, hF2⟩ := ret_inj hF; subst hF; subst hF2
              exact leave_of (rs := [.tmp 4, .tmp 5, .tmp 6, .tmp 7]) (vs := [strA t41, v29, .int .i64 t44, .bool true]) (by kernel_rfl) (res_tmp (by kernel_rfl) (res_tmp (by kernel_rfl) (res_tmp (by kernel_rfl) (res_tmp (by kernel_rfl) res_nil)))) (by kernel_rfl)
            | false =>
              replace hF := ifB_f hF
              refine W.f ?_
              refine W.skip (by kernel_rfl) ?_
              refine n23 ?_
              refine W.s (fun K34 n34 e34 q34 p34 => ?_)
              refine W.r ?_
              refine WL.a (some 46) (strA t0) h_26 ?_
              refine WL.a (some 47) (.int .i64 t1_15) h_26 ?_
              replace hF := callN_some hF; obtain ⟨r48, h_35, e36, hF⟩ := hF
              refine WL.c (hc.ok w0) (some 48) e36 ?_
              refine WL.a (some 45) r48 h_35 ?_
              replace hF := obind_some hF; obtain ⟨v49, e37, hF⟩ := hF
              replace hF := obind_some hF; obtain ⟨t49, c38, hF⟩ := hF
              have c38 := avInt_some c38
              subst c38
              refine WL.b (some 49) (.int .u8 t49) h_35 (extract_tup (h := h_35) e37) ?_
              replace hF := obind_some hF; obtain ⟨v50, e39, hF⟩ := hF
              replace hF := obind_some hF; obtain ⟨t50, c40, hF⟩ := hF
              have c40 := avInt_some c40
              subst c40
              refine WL.b (some 50) (.int .i64 t50) h_35 (extract_tup (h := h_35) e39) ?_
              replace hF := obind_some hF; obtain ⟨v51, e41, hF⟩ := hF
              replace hF := obind_some hF; obtain ⟨t51, c42, hF⟩ := hF
              have c42 := avBool_some c42
              subst c42
              refine WL.b (some 51) (.bool t51) h_35 (extract_tup (h := h_35) e41) ?_
              refine WL.a (some 10) (.int .u8 t49) h_35 ?_
              refine WL.a (some 11) (.int .i64 t50) h_35 ?_
              refine WL.a (some 12) (.bool t51) h_35 ?_
              refine WL.n ?_
              refine Go.weaken (l' := [(0, strA t0), (8, t8), (9, v29), (10, .int .u8 t49), (11, .int .i64 t50), (12, .bool t51)]) (Fr.c (Fr.c (Fr.c (Fr.c (Fr.c (Fr.c Fr.n)))))) ?_
              refine n34 ?_
              refine W.s (fun K43 n43 e43 q43 p43 => ?_)
              refine W.s (fun K44 n44 e44 q44 p44 => ?_)
              refine W.r ?_
              refine WL.a (some 52) (.bool t51) h_35 ?_
              replace hF := lett_some hF; obtain ⟨t53, e45, hF⟩ := hF
              refine WL.val (d := (some 53)) (v := .bool t53) (h' := h_35) (by kernel_rfl) (by kernel_rfl) (val_of AV.bool e45 (by kernel_rfl)) ?_
              refine WL.n ?_
              refine Go.weaken (l' := [(0, strA t0), (8, t8), (9, v29), (10, .int .u8 t49), (11, .int .i64 t50), (53, .bool t53)]) (Fr.c (Fr.c (Fr.c (Fr.c (Fr.c (Fr.c Fr.n)))))) ?_
              refine n44 ?_
              cases t53 with
              | true =>
                replace hF := ifB_t hF
                refine W.t ?_
                refine W.s (fun K46 n46 e46 q46 p46 => ?_)
                refine W.r ?_
                refine WL.a (some 54) (.int .i64 t50) h_35 ?_
                refine WL.a (some 4) (strA ([] : Bytes)) h_35 ?_
                refine WL.a (some 5) AV.nsl h_35 ?_
                refine WL.a (some 6) (.int .i64 t50) h_35 ?_
                refine WL.a (some 7) (.bool false) h_35 ?_
                refine WL.n ?_
                refine Go.weaken (l' := [(4, strA ([] : Bytes)), (5, AV.nsl), (6, .int .i64 t50), (7, .bool false)]) (Fr.c (Fr.c (Fr.c (Fr.c Fr.n)))) ?_
                refine n46 ?_
                refine W.ret (by kernel_rfl) ?_
                refine q43 ?_
                refine q17 ?_
                refine q14 ?_
                refine q13 ?_
                obtain ⟨hF, hF2⟩ := ret_inj hF; subst hF; subst hF2
                exact leave_of (rs := [.tmp 4, .tmp 5, .tmp 6, .tmp 7]) (vs := [strA ([] : Bytes), AV.nsl, .int .i64 t50, .bool false]) (by kernel_rfl) (res_tmp (by kernel_rfl) (res_tmp (by kernel_rfl) (res_tmp (by kernel_rfl) (res_tmp (by kernel_rfl) res_nil)))) (by kernel_rfl)
              | false =>
                replace hF := ifB_f hF
                refine W.f ?_
                refine W.skip (by kernel_rfl) ?_
                refine n43 ?_
                refine W.s (fun K47 n47 e47 q47 p47 => ?_)
                refine W.r ?_
                refine WL.a (some 55) t8 h_35 ?_
                refine WL.a (some 56) (.int .u8 t49) h_35 ?_
                replace hF := outK_some hF; obtain ⟨v57, h_48, e49, hF⟩ := hF
                refine WL.b (some 57) v57 h_48 e49 ?_
                replace hF := outK_some hF; obtain ⟨v58, h_50, e51, hF⟩ := hF
                refine WL.b (some 58) v58 h_50 e51 ?_
                refine WL.a (some 8) v58 h_50 ?_
                refine WL.n ?_
                refine Go.weaken (l' := [(0, strA t0), (8, v58), (9, v29), (11, .int .i64 t50)]) (Fr.c (Fr.c (Fr.c (Fr.c Fr.n)))) ?_
                refine n47 ?_
                refine W.r ?_
                refine WL.a (some 59) (.int .i64 t50) h_50 ?_
                refine WL.a (some 1) (.int .i64 t50) h_50 ?_
                refine WL.n ?_
                refine Go.weaken (l' := [(0, strA t0), (1, .int .i64 t50), (8, v58), (9, v29)]) (Fr.c (Fr.c (Fr.c (Fr.c Fr.n)))) ?_
                refine n17 ?_
                refine n14 ?_
                exact Go.weaken (Fr.c (Fr.c (Fr.c (Fr.c Fr.n)))) (ih14 _ _ _ _ hF)
          cases t33 with
          | true =>
            replace hF := ifB_t hF
            refine WL.a (some 35) (strA t0) h_21 ?_
            refine WL.a (some 36) (.int .i64 t1_15) h_21 ?_
            replace hF := obind_some hF; obtain ⟨t37, e52, hF⟩ := hF
            refine WL.b (some 37) (.int .u8 t37) h_21 (index_str (P := Try.prog) (h := h_21) (t := 9) (k := .i64) (by kernel_rfl) e52) ?_
            replace hF := lett_some hF; obtain ⟨t38, e53, hF⟩ := hF
            refine WL.val (d := (some 38)) (v := .bool t38) (h' := h_21) (by kernel_rfl) (by kernel_rfl) (val_of AV.bool e53 (by kernel_rfl)) ?_
            refine WL.a (some 39) (.bool t38) h_21 ?_
            exact WL.weaken (Fr.c (Fr.c (Fr.c (Fr.c (Fr.c Fr.n))))) (J28 _ _ hF)
          | false =>
            replace hF := ifB_f hF
            refine WL.o (some 35) ?_
            refine WL.o (some 36) ?_
            refine WL.o (some 37) ?_
            refine WL.o (some 38) ?_
            refine WL.a (some 39) (.bool false) h_21 ?_
            exact WL.weaken (Fr.c (Fr.c (Fr.c (Fr.c (Fr.c Fr.n))))) (J28 _ _ hF)
      exact Go.weaken (Fr.c (Fr.c (Fr.c (Fr.c Fr.n)))) (L14 _ _ _ _ _ hF)
  cases t16 with
  | true =>
    replace hF := ifB_t hF
    refine WL.o (some 18) ?_
    refine WL.o (some 19) ?_
    refine WL.o (some 20) ?_
    refine WL.o (some 21) ?_
    refine WL.a (some 22) (.bool true) h ?_
    exact WL.weaken (Fr.c (Fr.c (Fr.c Fr.n))) (J7 _ _ hF)
  | false =>
    replace hF := ifB_f hF
    refine WL.a (some 18) (strA t0) h ?_
    refine WL.a (some 19) (.int .i64 t1) h ?_
    replace hF := obind_some hF; obtain ⟨t20, e54, hF⟩ := hF
    refine WL.b (some 20) (.int .u8 t20) h (index_str (P := Try.prog) (h := h) (t := 9) (k := .i64) (by kernel_rfl) e54) ?_
    replace hF := lett_some hF; obtain ⟨t21, e55, hF⟩ := hF
    refine WL.val (d := (some 21)) (v := .bool t21) (h' := h) (by kernel_rfl) (by kernel_rfl) (val_of AV.bool e55 (by kernel_rfl)) ?_
    refine WL.a (some 22) (.bool t21) h ?_
    exact WL.weaken (Fr.c (Fr.c (Fr.c Fr.n))) (J7 _ _ hF)
noncomputable def ref09_Scan_fn (call : CallF) (n : Nat) : FnT := fun args h => match args with
  | [x0, x1] => obind (avStr x0) fun t0 => obind (avInt .i64 x1) fun t1 => ref09_Scan call n t0 t1 h
  | _ => none
set_option maxRecDepth 100000 in
theorem ref09_Scan_fn_eq (call : CallF) (n : Nat) (t0 : Bytes) (t1 : Int) (h : AHeap) : ref09_Scan_fn call n [strA t0, .int .i64 t1] h = ref09_Scan call n t0 t1 h :=
  (Eq.trans (obind_eq (fun t0 => obind (avInt .i64 (.int .i64 t1)) fun t1 => ref09_Scan call n t0 t1 h) (avStr_str t0)) (Eq.trans (obind_eq (fun t1 => ref09_Scan call n t0 t1 h) (avInt_int .i64 t1)) rfl))
theorem ref09_Scan_holds {call : CallF} (hc : SaysAll Try.prog call) (n : Nat) : Holds Try.prog 33 (ref09_Scan_fn call n) := by
  intro args h r h2 e
  unfold ref09_Scan_fn at e
  split at e
  · replace e := obind_some e; obtain ⟨t0, c0, e⟩ := e; have c0 := avStr_some c0; subst c0
    replace e := obind_some e; obtain ⟨t1, c1, e⟩ := e; have c1 := avInt_some c1; subst c1
    exact ref09_Scan_ok hc e
  · cases e

noncomputable def ref09_Quoted_L0b (call : CallF) (t0 : Bytes) (t1 : Int) (k43 : Int → Int → AHeap → R) (self : Int → Int → AHeap → R) (t11_71 : Int) (t12_72 : Int) (h_73 : AHeap) : R :=
  lett (decide (t11_71 < t1)) fun (t27 : Bool) =>
  lett (fun (t33 : Bool) (h_77 : AHeap) =>
    lett (fun (t39 : Bool) (h_80 : AHeap) =>
      ifB t39
      (
        callN (call 38 [strA t0, .int .i64 t12_72] h_80) fun r43 h_85 =>
        obind (extT 0 r43) fun v44 =>
        obind (avInt .u8 v44) fun _ =>
        obind (extT 1 r43) fun v45 =>
        obind (avInt .i64 v45) fun t45 =>
        obind (extT 2 r43) fun v46 =>
        obind (avBool v46) fun t46 =>
        lett (!t46) fun (t48 : Bool) =>
        ifB t48
        (
          k43 t11_71 t12_72 h_85)
        (
          lett (IntKind.i64.wrap (t11_71 + 1)) fun (t51 : Int) =>
          self t51 t45 h_85))
      (
        k43 t11_71 t12_72 h_80)) fun j39 =>
    ifB t33
    (
      obind (idxS t0 t12_72) fun t37 =>
      lett ((t37 : Int) != 34) fun (t38 : Bool) =>
      j39 t38 h_77)
    (
      j39 false h_77)) fun j33 =>
  ifB t27
  (
    lett (decide (t12_72 < (lenS t0))) fun (t32 : Bool) =>
    j33 t32 h_73)
  (
    j33 false h_73)
noncomputable def ref09_Quoted_L0 (call : CallF) (t0 : Bytes) (t1 : Int) (k43 : Int → Int → AHeap → R) : Nat → Int → Int → AHeap → R := iterR (fun _ _ _ => none) (ref09_Quoted_L0b call t0 t1 k43)
theorem ref09_Quoted_L0_s (call : CallF) (t0 : Bytes) (t1 : Int) (k43 : Int → Int → AHeap → R) (m : Nat) : ref09_Quoted_L0 call t0 t1 k43 (m + 1) = ref09_Quoted_L0b call t0 t1 k43 (ref09_Quoted_L0 call t0 t1 k43 m) := rfl
noncomputable def ref09_Quoted (call : CallF) (n : Nat) (t0 : Bytes) (t1 : Int) (h : AHeap) : R :=
  lett (newH h 27 [.int .i64 0, .int .i64 0]) fun h_2 =>
  callN (call 33 [strA t0, .int .i64 0] h_2) fun r18 h_5 =>
  obind (extT 0 r18) fun v19 =>
  obind (avStr v19) fun t19 =>
  obind (extT 1 r18) fun v20 =>
  obind (extT 2 r18) fun v21 =>
  obind (avInt .i64 v21) fun t21 =>
  obind (extT 3 r18) fun v22 =>
  obind (avBool v22) fun t22 =>
  lett (decide (t1 ≥ 0)) fun (t24 : Bool) =>
  lett (fun  (h_18 : AHeap) =>
    lett (!t22) fun (t80 : Bool) =>
    ifB t80
    (
      callN (call 34 [.int .i64 t21] h_18) fun r82 h_23 =>
      obind (avAgg r82) fun t82 =>
      obind (stRow h_23 2 t82 (newP h)) fun h_26 =>
      obind (ldRow h_26 2 (newP h)) fun w6 =>
      some (.ret (.tup [strA ([] : Bytes), .int .i64 0, .agg w6]), h_26))
    (
      obind (lenL v20) fun t86 =>
      lett (IntKind.i64.wrap (t86 - 1)) fun (t87 : Int) =>
      obind (idxP 1 v20 t87) fun t88 =>
      obind (ldCell h_18 t88) fun v89 =>
      obind (avInt .i64 v89) fun t89 =>
      lett (IntKind.i64.wrap (t89 + 1)) fun (t90 : Int) =>
      obind (stRow h_18 2 ([.int .i64 0, .int .i64 0] : List AV) (newP h)) fun h_36 =>
      obind (ldRow h_36 2 (newP h)) fun w6_39 =>
      some (.ret (.tup [strA t19, .int .i64 t90, .agg w6_39]), h_36))) fun k17 =>
  ifB t24
  (
    lett (fun (t11 : Int) (t12 : Int) (h_44 : AHeap) =>
      lett ((t11 : Int) == t1) fun (t54 : Bool) =>
      lett (fun (t59 : Bool) (h_47 : AHeap) =>
        lett (fun (t64 : Bool) (h_50 : AHeap) =>
          lett (fun (t76 : Bool) (h_53 : AHeap) =>
            ifB t76
            (
              obind (stRow h_53 2 ([.int .i64 3, .int .i64 t12] : List AV) (newP h)) fun h_57 =>
              obind (ldRow h_57 2 (newP h)) fun w6_60 =>
              some (.ret (.tup [strA ([] : Bytes), .int .i64 0, .agg w6_60]), h_57))
            (
              k17 h_53)) fun j76 =>
          ifB t64
          (
            lett (decide (t12 ≥ (lenS t0))) fun (t69 : Bool) =>
            lett (fun (t75 : Bool) (h_62 : AHeap) =>
              j76 t75 h_62) fun j75 =>
            ifB t69
            (
              j75 true h_50)
            (
              obind (idxS t0 t12) fun t73 =>
              lett ((t73 : Int) != 34) fun (t74 : Bool) =>
              j75 t74 h_50))
          (
            j76 false h_50)) fun j64 =>
        ifB t59
        (
          obind (idxS t0 0) fun t62 =>
          lett ((t62 : Int) == 34) fun (t63 : Bool) =>
          j64 t63 h_47)
        (
          j64 false h_47)) fun j59 =>
      ifB t54
      (
        lett (decide ((lenS t0) > 0)) fun (t58 : Bool) =>
        j59 t58 h_44)
      (
        j59 false h_44)) fun k43 =>
    ref09_Quoted_L0 call t0 t1 k43 n 0 1 h_5)
  (
    k17 h_5)
set_option maxHeartbeats 4000000 in
set_option maxRecDepth 20000 in
theorem ref09_Quoted_ok {call : CallF} (hc : SaysAll Try.prog call) {n : Nat} {t0 : Bytes} {t1 : Int} {h : AHeap} {rR : ARes} {hR : AHeap} (hF : ref09_Quoted call n t0 t1 h = some (rR, hR)) : Says Try.prog 20 [strA t0, .int .i64 t1] h rR hR := by
  unfold ref09_Quoted at hF
  refine says_of (fn := Try.f20) Try.func20 (c := codeOf Try.f20) (by kernel_rfl) (by kernel_rfl) (fun w0 m0 => ?_)
  refine W.weaken (l' := [(0, strA t0), (1, .int .i64 t1)]) (Fr.c (Fr.c Fr.n)) ?_
  refine W.s (fun K1 n1 e1 q1 p1 => ?_)
  refine W.r ?_
  refine WL.a (some 4) (strA ([] : Bytes)) h ?_
  refine WL.a (some 5) (.int .i64 0) h ?_
  replace hF := lett_some hF; obtain ⟨h_2, e3, hF⟩ := hF
  refine WL.val (d := (some 6)) (v := (newP h)) (h' := h_2) (by kernel_rfl) (by kernel_rfl) (val_ofH e3 (by kernel_rfl)) ?_
  refine WL.n ?_
  refine Go.weaken (l' := [(0, strA t0), (1, .int .i64 t1), (6, (newP h))]) (Fr.c (Fr.c (Fr.c Fr.n))) ?_
  refine n1 ?_
  refine W.s (fun K4 n4 e4 q4 p4 => ?_)
  refine W.r ?_
  refine WL.a (some 17) (strA t0) h_2 ?_
  replace hF := callN_some hF; obtain ⟨r18, h_5, e6, hF⟩ := hF
  refine WL.c (hc.ok w0) (some 18) e6 ?_
  refine WL.a (some 16) r18 h_5 ?_
  replace hF := obind_some hF; obtain ⟨v19, e7, hF⟩ := hF
  replace hF := obind_some hF; obtain ⟨t19, c8, hF⟩ := hF
  have c8 := avStr_some c8
  subst c8
  refine WL.b (some 19) (strA t19) h_5 (extract_tup (h := h_5) e7) ?_
  replace hF := obind_some hF; obtain ⟨v20, e9, hF⟩ := hF
  refine WL.b (some 20) v20 h_5 (extract_tup (h := h_5) e9) ?_
  replace hF := obind_some hF; obtain ⟨v21, e10, hF⟩ := hF
  replace hF := obind_some hF; obtain ⟨t21, c11, hF⟩ := hF
  have c11 := avInt_some c11
  subst c11
  refine WL.b (some 21) (.int .i64 t21) h_5 (extract_tup (h := h_5) e10) ?_
  replace hF := obind_some hF; obtain ⟨v22, e12, hF⟩ := hF
  replace hF := obind_some hF; obtain ⟨t22, c13, hF⟩ := hF
  have c13 := avBool_some c13
  subst c13
  refine WL.b (some 22) (.bool t22) h_5 (extract_tup (h := h_5) e12) ?_
  refine WL.a (some 7) (strA t19) h_5 ?_
  refine WL.a (some 8) v20 h_5 ?_
  refine WL.a (some 9) (.int .i64 t21) h_5 ?_
  refine WL.a (some 10) (.bool t22) h_5 ?_
  refine WL.n ?_
  refine Go.weaken (l' := [(0, strA t0), (1, .int .i64 t1), (6, (newP h)), (7, strA t19), (8, v20), (9, .int .i64 t21), (10, .bool t22)]) (Fr.c (Fr.c (Fr.c (Fr.c (Fr.c (Fr.c (Fr.c Fr.n))))))) ?_
  refine n4 ?_
  refine W.s (fun K14 n14 e14 q14 p14 => ?_)
  refine W.s (fun K15 n15 e15 q15 p15 => ?_)
  refine W.r ?_
  refine WL.a (some 23) (.int .i64 t1) h_5 ?_
  replace hF := lett_some hF; obtain ⟨t24, e16, hF⟩ := hF
  refine WL.val (d := (some 24)) (v := .bool t24) (h' := h_5) (by kernel_rfl) (by kernel_rfl) (val_of AV.bool e16 (by kernel_rfl)) ?_
  refine WL.n ?_
  refine Go.weaken (l' := [(0, strA t0), (1, .int .i64 t1), (6, (newP h)), (7, strA t19), (8, v20), (9, .int .i64 t21), (10, .bool t22), (24, .bool t24)]) (Fr.c (Fr.c (Fr.c (Fr.c (Fr.c (Fr.c (Fr.c (Fr.c Fr.n)))))))) ?_
  refine n15 ?_
  replace hF := lett_some hF; obtain ⟨k17, e17, hF⟩ := hF
  have J17 : ∀  (h_18 : AHeap), k17 h_18 = some (rR, hR) → Go w0 m0 (Func.ntmps Try.f20) (K14 .normal) [(6, (newP h)), (7, strA t19), (8, v20), (9, .int .i64 t21), (10, .bool t22)] [] h_18 := by
    intro  h_18 hF
    rw [e17] at hF
    refine n14 ?_
    refine W.s (fun K19 n19 e19 q19 p19 => ?_)
    refine W.s (fun K20 n20 e20 q20 p20 => ?_)
    refine W.r ?_
    refine WL.a (some 79) (.bool t22) h_18 ?_
    replace hF := lett_some hF; obtain ⟨t80, e21, hF⟩ := hF
    refine WL.val (d := (some 80)) (v := .bool t80) (h' := h_18) (by kernel_rfl) (by kernel_rfl) (val_of AV.bool e21 (by kernel_rfl)) ?_
    refine WL.n ?_
    refine Go.weaken (l' := [(6, (newP h)), (7, strA t19), (8, v20), (9, .int .i64 t21), (80, .bool t80)]) (Fr.c (Fr.c (Fr.c (Fr.c (Fr.c Fr.n))))) ?_
    refine n20 ?_
    cases t80 with
    | true =>
      replace hF := ifB_t hF
      refine W.t ?_
      refine W.s (fun K22 n22 e22 q22 p22 => ?_)
      refine W.r ?_
      refine WL.a (some 81) (.int .i64 t21) h_18 ?_
      replace hF := callN_some hF; obtain ⟨r82, h_23, e24, hF⟩ := hF
      replace hF := obind_some hF; obtain ⟨t82, c25, hF⟩ := hF
      have c25 := avAgg_some c25
      subst c25
      refine WL.c (hc.ok w0) (some 82) e24 ?_
      refine WL.a (some 4) (strA ([] : Bytes)) h_23 ?_
      refine WL.a (some 5) (.int .i64 0) h_23 ?_
      replace hF := obind_some hF; obtain ⟨h_26, e27, hF⟩ := hF
      refine WL.e h_26 (store_row (P := Try.prog) (h := h_23) (t := 27) (v := (.agg t82)) (by kernel_rfl) (by kernel_rfl) e27) ?_
      refine WL.n ?_
      refine Go.weaken (l' := [(4, strA ([] : Bytes)), (5, .int .i64 0), (6, (newP h))]) (Fr.c (Fr.c (Fr.c Fr.n))) ?_
      refine n22 ?_
      refine W.ret (by kernel_rfl) ?_
      refine q19 ?_
      replace hF := obind_some hF; obtain ⟨w6, e28, hF⟩ := hF
      obtain ⟨hF, hF2⟩ := ret_inj hF; subst hF; subst hF2
      exact leave_of (rs := [.tmp 4, .tmp 5, .cell 6 27]) (vs := [strA ([] : Bytes), .int .i64 0, .agg w6]) (by kernel_rfl) (res_tmp (by kernel_rfl) (res_tmp (by kernel_rfl) (res_cell (by kernel_rfl) (load_row (P := Try.prog) (h := h_26) (t := 27) (by kernel_rfl) (by kernel_rfl) e28) res_nil))) (by kernel_rfl)
    | false =>
      replace hF := ifB_f hF
      refine W.f ?_
      refine W.skip (by kernel_rfl) ?_
      refine n19 ?_
      refine W.s (fun K29 n29 e29 q29 p29 => ?_)
      refine W.draw (by kernel_rfl) (hc.ok w0) (plan := [0, 1, 2, 3, 4, 5, 6, 7, 8, 9, 10, 11]) (by kernel_rfl) (by kernel_rfl) (by kernel_rfl) ?_
      refine WD.a 0 (some 83) (strA t19) h_18 ?_
      refine WD.a 0 (some 84) v20 h_18 ?_
      refine WD.a 0 (some 85) v20 h_18 ?_
      replace hF := obind_some hF; obtain ⟨t86, e30, hF⟩ := hF
      refine WD.b 0 (some 86) (.int .i64 t86) h_18 (len_row (P := Try.prog) (h := h_18) (t := 64) (e' := 3) (by kernel_rfl) e30) ?_
      replace hF := lett_some hF; obtain ⟨t87, e31, hF⟩ := hF
      refine WD.val (d := (some 87)) (v := .int .i64 t87) (h' := h_18) (by kernel_rfl) (by kernel_rfl) (val_of (AV.int .i64) e31 (by kernel_rfl)) (k := 0) (by kernel_rfl) (fun e => absurd e (by decide)) (by decide) ?_
      replace hF := obind_some hF; obtain ⟨t88, e32, hF⟩ := hF
      refine WD.b 0 (some 88) t88 h_18 (index_row (P := Try.prog) (h := h_18) (t := 64) (e' := 3) (k := .i64) (by kernel_rfl) (by kernel_rfl) (by kernel_rfl) e32) ?_
      replace hF := obind_some hF; obtain ⟨v89, e33, hF⟩ := hF
      replace hF := obind_some hF; obtain ⟨t89, c34, hF⟩ := hF
      have c34 := avInt_some c34
      subst c34
      refine WD.b 1 (some 89) (.int .i64 t89) h_18 (load_cell (P := Try.prog) (h := h_18) (t := 3) (by kernel_rfl) e33) ?_
      replace hF := lett_some hF; obtain ⟨t90, e35, hF⟩ := hF
      refine WD.val (d := (some 90)) (v := .int .i64 t90) (h' := h_18) (by kernel_rfl) (by kernel_rfl) (val_of (AV.int .i64) e35 (by kernel_rfl)) (k := 0) (by kernel_rfl) (fun e => absurd e (by decide)) (by decide) ?_
      refine WD.a 0 (some 91) (.agg ([.int .i64 0, .int .i64 0] : List AV)) h_18 ?_
      refine WD.a 0 (some 4) (strA t19) h_18 ?_
      refine WD.a 0 (some 5) (.int .i64 t90) h_18 ?_
      replace hF := obind_some hF; obtain ⟨h_36, e37, hF⟩ := hF
      refine WD.eff (h' := h_36) (by kernel_rfl) (by kernel_rfl) (Eq.trans (by kernel_rfl) (store_row (P := Try.prog) (h := h_18) (t := 27) (v := (.agg ([.int .i64 0, .int .i64 0] : List AV))) (by kernel_rfl) (by kernel_rfl) e37)) (k := 2) (by kernel_rfl) (fun _ => (by kernel_rfl)) (by decide) ?_
      refine WD.nil ?_
      refine Go.weaken (l' := [(4, strA t19), (5, .int .i64 t90), (6, (newP h))]) (Fr.c (Fr.c (Fr.c Fr.n))) ?_
      refine n29 ?_
      refine W.ret (by kernel_rfl) ?_
      replace hF := obind_some hF; obtain ⟨w6_39, e38, hF⟩ := hF
      obtain ⟨hF, hF2⟩ := ret_inj hF; subst hF; subst hF2
      exact leave_of (rs := [.tmp 4, .tmp 5, .cell 6 27]) (vs := [strA t19, .int .i64 t90, .agg w6_39]) (by kernel_rfl) (res_tmp (by kernel_rfl) (res_tmp (by kernel_rfl) (res_cell (by kernel_rfl) (load_row (P := Try.prog) (h := h_36) (t := 27) (by kernel_rfl) (by kernel_rfl) e38) res_nil))) (by kernel_rfl)
  cases t24 with
  | true =>
    replace hF := ifB_t hF
    refine W.t ?_
    refine W.s (fun K40 n40 e40 q40 p40 => ?_)
    refine W.r ?_
    refine WL.a (some 11) (.int .i64 0) h_5 ?_
    refine WL.a (some 12) (.int .i64 1) h_5 ?_
    refine WL.n ?_
    refine Go.weaken (l' := [(0, strA t0), (1, .int .i64 t1), (6, (newP h)), (7, strA t19), (8, v20), (9, .int .i64 t21), (10, .bool t22), (11, .int .i64 0), (12, .int .i64 1)]) (Fr.c (Fr.c (Fr.c (Fr.c (Fr.c (Fr.c (Fr.c (Fr.c (Fr.c Fr.n))))))))) ?_
    refine n40 ?_
    refine W.s (fun K41 n41 e41 q41 p41 => ?_)
    replace hF := lett_some hF; obtain ⟨k43, e43, hF⟩ := hF
    have J43 : ∀ (t11 : Int) (t12 : Int) (h_44 : AHeap), k43 t11 t12 h_44 = some (rR, hR) → Go w0 m0 (Func.ntmps Try.f20) (K41 .normal) [(0, strA t0), (1, .int .i64 t1), (6, (newP h)), (7, strA t19), (8, v20), (9, .int .i64 t21), (10, .bool t22), (11, .int .i64 t11), (12, .int .i64 t12)] [] h_44 := by
      intro t11 t12 h_44 hF
      rw [e43] at hF
      refine n41 ?_
      refine W.s (fun K45 n45 e45 q45 p45 => ?_)
      refine W.r ?_
      refine WL.a (some 52) (.int .i64 t11) h_44 ?_
      refine WL.a (some 53) (.int .i64 t1) h_44 ?_
      replace hF := lett_some hF; obtain ⟨t54, e46, hF⟩ := hF
      refine WL.val (d := (some 54)) (v := .bool t54) (h' := h_44) (by kernel_rfl) (by kernel_rfl) (val_of AV.bool e46 (by kernel_rfl)) ?_
      refine WL.a (some 55) (.bool t54) h_44 ?_
      replace hF := lett_some hF; obtain ⟨j59, e48, hF⟩ := hF
      have J49 : ∀ (t59 : Bool) (h_47 : AHeap), j59 t59 h_47 = some (rR, hR) → WL Try.prog w0 m0 (Func.ntmps Try.f20) (Code.ops (Code.p1 (Code.p2 (Code.p2 (Code.p1 (Code.p2 (Code.p1 (Code.p2 (Code.p2 (codeOf Try.f20)))))))))) 8 K45 [(0, strA t0), (6, (newP h)), (7, strA t19), (8, v20), (9, .int .i64 t21), (10, .bool t22), (12, .int .i64 t12), (59, .bool t59)] [] h_47 := by
        intro t59 h_47 hF
        rw [e48] at hF
        refine WL.a (some 60) (.bool t59) h_47 ?_
        replace hF := lett_some hF; obtain ⟨j64, e51, hF⟩ := hF
        have J52 : ∀ (t64 : Bool) (h_50 : AHeap), j64 t64 h_50 = some (rR, hR) → WL Try.prog w0 m0 (Func.ntmps Try.f20) (Code.ops (Code.p1 (Code.p2 (Code.p2 (Code.p1 (Code.p2 (Code.p1 (Code.p2 (Code.p2 (codeOf Try.f20)))))))))) 13 K45 [(0, strA t0), (6, (newP h)), (7, strA t19), (8, v20), (9, .int .i64 t21), (10, .bool t22), (12, .int .i64 t12), (64, .bool t64)] [] h_50 := by
          intro t64 h_50 hF
          rw [e51] at hF
          refine WL.a (some 65) (.bool t64) h_50 ?_
          replace hF := lett_some hF; obtain ⟨j76, e54, hF⟩ := hF
          have J55 : ∀ (t76 : Bool) (h_53 : AHeap), j76 t76 h_53 = some (rR, hR) → WL Try.prog w0 m0 (Func.ntmps Try.f20) (Code.ops (Code.p1 (Code.p2 (Code.p2 (Code.p1 (Code.p2 (Code.p1 (Code.p2 (Code.p2 (codeOf Try.f20)))))))))) 25 K45 [(6, (newP h)), (7, strA t19), (8, v20), (9, .int .i64 t21), (10, .bool t22), (12, .int .i64 t12), (76, .bool t76)] [] h_53 := by
            intro t76 h_53 hF
            rw [e54] at hF
            refine WL.n ?_
            refine Go.weaken (l' := [(6, (newP h)), (7, strA t19), (8, v20), (9, .int .i64 t21), (10, .bool t22), (12, .int .i64 t12), (76, .bool t76)]) (Fr.c (Fr.c (Fr.c (Fr.c (Fr.c (Fr.c (Fr.c Fr.n))))))) ?_
            refine n45 ?_
            cases t76 with
            | true =>
              replace hF := ifB_t hF
              refine W.t ?_
              refine W.s (fun K56 n56 e56 q56 p56 => ?_)
              refine W.r ?_
              refine WL.a (some 77) (.int .i64 t12) h_53 ?_
              refine WL.a (some 78) (.agg ([.int .i64 3, .int .i64 t12] : List AV)) h_53 ?_
              refine WL.a (some 4) (strA ([] : Bytes)) h_53 ?_
              refine WL.a (some 5) (.int .i64 0) h_53 ?_
              replace hF := obind_some hF; obtain ⟨h_57, e58, hF⟩ := hF
              refine WL.e h_57 (store_row (P := Try.prog) (h := h_53) (t := 27) (v := (.agg ([.int .i64 3, .int .i64 t12] : List AV))) (by kernel_rfl) (by kernel_rfl) e58) ?_
              refine WL.n ?_
              refine Go.weaken (l' := [(4, strA ([] : Bytes)), (5, .int .i64 0), (6, (newP h))]) (Fr.c (Fr.c (Fr.c Fr.n))) ?_
              refine n56 ?_
              refine W.ret (by kernel_rfl) ?_
              refine q14 ?_
              replace hF := obind_some hF; obtain ⟨w6_60, e59, hF⟩ := hF
              obtain ⟨hF, hF2⟩ := ret_inj hF; subst hF; subst hF2
              exact leave_of (rs := [.tmp 4, .tmp 5, .cell 6 27]) (vs := [strA ([] : Bytes), .int .i64 0, .agg w6_60]) (by kernel_rfl) (res_tmp (by kernel_rfl) (res_tmp (by kernel_rfl) (res_cell (by kernel_rfl) (load_row (P := Try.prog) (h := h_57) (t := 27) (by kernel_rfl) (by kernel_rfl) e59) res_nil))) (by kernel_rfl)
            | false =>
              replace hF := ifB_f hF
              refine W.f ?_
              refine W.skip (by kernel_rfl) ?_
              exact Go.weaken (Fr.c (Fr.c (Fr.c (Fr.c (Fr.c Fr.n))))) (J17 _ hF)
          cases t64 with
          | true =>
            replace hF := ifB_t hF
            refine WL.a (some 66) (.int .i64 t12) h_50 ?_
            refine WL.a (some 67) (strA t0) h_50 ?_
            refine WL.a (some 68) (.int .i64 (lenS t0)) h_50 ?_
            replace hF := lett_some hF; obtain ⟨t69, e61, hF⟩ := hF
            refine WL.val (d := (some 69)) (v := .bool t69) (h' := h_50) (by kernel_rfl) (by kernel_rfl) (val_of AV.bool e61 (by kernel_rfl)) ?_
            refine WL.a (some 70) (.bool t69) h_50 ?_
            replace hF := lett_some hF; obtain ⟨j75, e63, hF⟩ := hF
            have J64 : ∀ (t75 : Bool) (h_62 : AHeap), j75 t75 h_62 = some (rR, hR) → WL Try.prog w0 m0 (Func.ntmps Try.f20) (Code.ops (Code.p1 (Code.p2 (Code.p2 (Code.p1 (Code.p2 (Code.p1 (Code.p2 (Code.p2 (codeOf Try.f20)))))))))) 24 K45 [(6, (newP h)), (7, strA t19), (8, v20), (9, .int .i64 t21), (10, .bool t22), (12, .int .i64 t12), (65, .bool true), (75, .bool t75)] [] h_62 := by
              intro t75 h_62 hF
              rw [e63] at hF
              refine WL.a (some 76) (.bool t75) h_62 ?_
              exact WL.weaken (Fr.c (Fr.c (Fr.c (Fr.c (Fr.c (Fr.c (Fr.c Fr.n))))))) (J55 _ _ hF)
            cases t69 with
            | true =>
              replace hF := ifB_t hF
              refine WL.o (some 71) ?_
              refine WL.o (some 72) ?_
              refine WL.o (some 73) ?_
              refine WL.o (some 74) ?_
              refine WL.a (some 75) (.bool true) h_50 ?_
              exact WL.weaken (Fr.c (Fr.c (Fr.c (Fr.c (Fr.c (Fr.c (Fr.c (Fr.c Fr.n)))))))) (J64 _ _ hF)
            | false =>
              replace hF := ifB_f hF
              refine WL.a (some 71) (strA t0) h_50 ?_
              refine WL.a (some 72) (.int .i64 t12) h_50 ?_
              replace hF := obind_some hF; obtain ⟨t73, e65, hF⟩ := hF
              refine WL.b (some 73) (.int .u8 t73) h_50 (index_str (P := Try.prog) (h := h_50) (t := 9) (k := .i64) (by kernel_rfl) e65) ?_
              replace hF := lett_some hF; obtain ⟨t74, e66, hF⟩ := hF
              refine WL.val (d := (some 74)) (v := .bool t74) (h' := h_50) (by kernel_rfl) (by kernel_rfl) (val_of AV.bool e66 (by kernel_rfl)) ?_
              refine WL.a (some 75) (.bool t74) h_50 ?_
              exact WL.weaken (Fr.c (Fr.c (Fr.c (Fr.c (Fr.c (Fr.c (Fr.c (Fr.c Fr.n)))))))) (J64 _ _ hF)
          | false =>
            replace hF := ifB_f hF
            refine WL.o (some 66) ?_
            refine WL.o (some 67) ?_
            refine WL.o (some 68) ?_
            refine WL.o (some 69) ?_
            refine WL.o (some 70) ?_
            refine WL.o (some 71) ?_
            refine WL.o (some 72) ?_
            refine WL.o (some 73) ?_
            refine WL.o (some 74) ?_
            refine WL.o (some 75) ?_
            refine WL.a (some 76) (.bool false) h_50 ?_
            exact WL.weaken (Fr.c (Fr.c (Fr.c (Fr.c (Fr.c (Fr.c (Fr.c Fr.n))))))) (J55 _ _ hF)
        cases t59 with
        | true =>
          replace hF := ifB_t hF
          refine WL.a (some 61) (strA t0) h_47 ?_
          replace hF := obind_some hF; obtain ⟨t62, e67, hF⟩ := hF
          refine WL.b (some 62) (.int .u8 t62) h_47 (index_str (P := Try.prog) (h := h_47) (t := 9) (k := .i64) (by kernel_rfl) e67) ?_
          replace hF := lett_some hF; obtain ⟨t63, e68, hF⟩ := hF
          refine WL.val (d := (some 63)) (v := .bool t63) (h' := h_47) (by kernel_rfl) (by kernel_rfl) (val_of AV.bool e68 (by kernel_rfl)) ?_
          refine WL.a (some 64) (.bool t63) h_47 ?_
          exact WL.weaken (Fr.c (Fr.c (Fr.c (Fr.c (Fr.c (Fr.c (Fr.c (Fr.c Fr.n)))))))) (J52 _ _ hF)
        | false =>
          replace hF := ifB_f hF
          refine WL.o (some 61) ?_
          refine WL.o (some 62) ?_
          refine WL.o (some 63) ?_
          refine WL.a (some 64) (.bool false) h_47 ?_
          exact WL.weaken (Fr.c (Fr.c (Fr.c (Fr.c (Fr.c (Fr.c (Fr.c (Fr.c Fr.n)))))))) (J52 _ _ hF)
      cases t54 with
      | true =>
        replace hF := ifB_t hF
        refine WL.a (some 56) (strA t0) h_44 ?_
        refine WL.a (some 57) (.int .i64 (lenS t0)) h_44 ?_
        replace hF := lett_some hF; obtain ⟨t58, e69, hF⟩ := hF
        refine WL.val (d := (some 58)) (v := .bool t58) (h' := h_44) (by kernel_rfl) (by kernel_rfl) (val_of AV.bool e69 (by kernel_rfl)) ?_
        refine WL.a (some 59) (.bool t58) h_44 ?_
        exact WL.weaken (Fr.c (Fr.c (Fr.c (Fr.c (Fr.c (Fr.c (Fr.c (Fr.c Fr.n)))))))) (J49 _ _ hF)
      | false =>
        replace hF := ifB_f hF
        refine WL.o (some 56) ?_
        refine WL.o (some 57) ?_
        refine WL.o (some 58) ?_
        refine WL.a (some 59) (.bool false) h_44 ?_
        exact WL.weaken (Fr.c (Fr.c (Fr.c (Fr.c (Fr.c (Fr.c (Fr.c (Fr.c Fr.n)))))))) (J49 _ _ hF)
    refine W.blockK (by kernel_rfl) (fun K42 n42 s42 o42 q42 p42 => ?_)
    refine W.loopK (by kernel_rfl) (fun I70 K70 b70 n70 e70 q70 p70 => ?_)
    have L70 : ∀ (m : Nat) (t11_71 : Int) (t12_72 : Int) (h_73 : AHeap), ref09_Quoted_L0 call t0 t1 k43 m t11_71 t12_72 h_73 = some (rR, hR) → Go w0 m0 (Func.ntmps Try.f20) I70 [(0, strA t0), (1, .int .i64 t1), (6, (newP h)), (7, strA t19), (8, v20), (9, .int .i64 t21), (10, .bool t22), (11, .int .i64 t11_71), (12, .int .i64 t12_72)] [] h_73 := by
      intro m
      induction m with
      | zero => intro t11_71 t12_72 h_73 hF; cases hF
      | succ m ih70 =>
        intro t11_71 t12_72 h_73 hF
        rw [ref09_Quoted_L0_s] at hF; unfold ref09_Quoted_L0b at hF
        refine b70 ?_
        refine W.s (fun K74 n74 e74 q74 p74 => ?_)
        refine W.s (fun K75 n75 e75 q75 p75 => ?_)
        refine W.r ?_
        refine WL.a (some 25) (.int .i64 t11_71) h_73 ?_
        refine WL.a (some 26) (.int .i64 t1) h_73 ?_
        replace hF := lett_some hF; obtain ⟨t27, e76, hF⟩ := hF
        refine WL.val (d := (some 27)) (v := .bool t27) (h' := h_73) (by kernel_rfl) (by kernel_rfl) (val_of AV.bool e76 (by kernel_rfl)) ?_
        refine WL.a (some 28) (.bool t27) h_73 ?_
        replace hF := lett_some hF; obtain ⟨j33, e78, hF⟩ := hF
        have J79 : ∀ (t33 : Bool) (h_77 : AHeap), j33 t33 h_77 = some (rR, hR) → WL Try.prog w0 m0 (Func.ntmps Try.f20) (Code.ops (Code.p1 (Code.p1 (Code.p1 (Code.p1 (Code.p1 (Code.p2 (Code.p1 (Code.p2 (Code.p1 (Code.p2 (Code.p2 (codeOf Try.f20))))))))))))) 9 K75 [(0, strA t0), (1, .int .i64 t1), (6, (newP h)), (7, strA t19), (8, v20), (9, .int .i64 t21), (10, .bool t22), (11, .int .i64 t11_71), (12, .int .i64 t12_72), (33, .bool t33)] [] h_77 := by
          intro t33 h_77 hF
          rw [e78] at hF
          refine WL.a (some 34) (.bool t33) h_77 ?_
          replace hF := lett_some hF; obtain ⟨j39, e81, hF⟩ := hF
          have J82 : ∀ (t39 : Bool) (h_80 : AHeap), j39 t39 h_80 = some (rR, hR) → WL Try.prog w0 m0 (Func.ntmps Try.f20) (Code.ops (Code.p1 (Code.p1 (Code.p1 (Code.p1 (Code.p1 (Code.p2 (Code.p1 (Code.p2 (Code.p1 (Code.p2 (Code.p2 (codeOf Try.f20))))))))))))) 15 K75 [(0, strA t0), (1, .int .i64 t1), (6, (newP h)), (7, strA t19), (8, v20), (9, .int .i64 t21), (10, .bool t22), (11, .int .i64 t11_71), (12, .int .i64 t12_72), (39, .bool t39)] [] h_80 := by
            intro t39 h_80 hF
            rw [e81] at hF
            refine WL.n ?_
            refine Go.weaken (l' := [(0, strA t0), (1, .int .i64 t1), (6, (newP h)), (7, strA t19), (8, v20), (9, .int .i64 t21), (10, .bool t22), (11, .int .i64 t11_71), (12, .int .i64 t12_72), (39, .bool t39)]) (Fr.c (Fr.c (Fr.c (Fr.c (Fr.c (Fr.c (Fr.c (Fr.c (Fr.c (Fr.c Fr.n)))))))))) ?_
            refine n75 ?_
            cases t39 with
            | true =>
              replace hF := ifB_t hF
              refine W.t ?_
              refine W.skip (by kernel_rfl) ?_
              refine n74 ?_
              refine W.blockK (by kernel_rfl) (fun K83 n83 s83 o83 q83 p83 => ?_)
              refine W.s (fun K84 n84 e84 q84 p84 => ?_)
              refine W.r ?_
              refine WL.a (some 41) (strA t0) h_80 ?_
              refine WL.a (some 42) (.int .i64 t12_72) h_80 ?_
              replace hF := callN_some hF; obtain ⟨r43, h_85, e86, hF⟩ := hF
              refine WL.c (hc.ok w0) (some 43) e86 ?_
              refine WL.a (some 40) r43 h_85 ?_
              replace hF := obind_some hF; obtain ⟨v44, e87, hF⟩ := hF
              replace hF := obind_some hF; obtain ⟨t44, c88, hF⟩ := hF
              have c88 := avInt_some c88
              subst c88
              refine WL.b (some 44) (.int .u8 t44) h_85 (extract_tup (h := h_85) e87) ?_
              replace hF := obind_some hF; obtain ⟨v45, e89, hF⟩ := hF
              replace hF := obind_some hF; obtain ⟨t45, c90, hF⟩ := hF
              have c90 := avInt_some c90
              subst c90
              refine WL.b (some 45) (.int .i64 t45) h_85 (extract_tup (h := h_85) e89) ?_
              replace hF := obind_some hF; obtain ⟨v46, e91, hF⟩ := hF
              replace hF := obind_some hF; obtain ⟨t46, c92, hF⟩ := hF
              have c92 := avBool_some c92
              subst c92
              refine WL.b (some 46) (.bool t46) h_85 (extract_tup (h := h_85) e91) ?_
              refine WL.a (some 13) (.int .u8 t44) h_85 ?_
              refine WL.a (some 14) (.int .i64 t45) h_85 ?_
              refine WL.a (some 15) (.bool t46) h_85 ?_
              refine WL.n ?_
              refine Go.weaken (l' := [(0, strA t0), (1, .int .i64 t1), (6, (newP h)), (7, strA t19), (8, v20), (9, .int .i64 t21), (10, .bool t22), (11, .int .i64 t11_71), (12, .int .i64 t12_72), (14, .int .i64 t45), (15, .bool t46)]) (Fr.c (Fr.c (Fr.c (Fr.c (Fr.c (Fr.c (Fr.c (Fr.c (Fr.c (Fr.c (Fr.c Fr.n))))))))))) ?_
              refine n84 ?_
              refine W.s (fun K93 n93 e93 q93 p93 => ?_)
              refine W.s (fun K94 n94 e94 q94 p94 => ?_)
              refine W.r ?_
              refine WL.a (some 47) (.bool t46) h_85 ?_
              replace hF := lett_some hF; obtain ⟨t48, e95, hF⟩ := hF
              refine WL.val (d := (some 48)) (v := .bool t48) (h' := h_85) (by kernel_rfl) (by kernel_rfl) (val_of AV.bool e95 (by kernel_rfl)) ?_
              refine WL.n ?_
              refine Go.weaken (l' := [(0, strA t0), (1, .int .i64 t1), (6, (newP h)), (7, strA t19), (8, v20), (9, .int .i64 t21), (10, .bool t22), (11, .int .i64 t11_71), (12, .int .i64 t12_72), (14, .int .i64 t45), (48, .bool t48)]) (Fr.c (Fr.c (Fr.c (Fr.c (Fr.c (Fr.c (Fr.c (Fr.c (Fr.c (Fr.c (Fr.c Fr.n))))))))))) ?_
              refine n94 ?_
              cases t48 with
              | true =>
                replace hF := ifB_t hF
                refine W.t ?_
                refine W.exit (by kernel_rfl) ?_
                refine e93 ?_
                refine o83 (by kernel_rfl) ?_
                refine e70 ?_
                refine s42 (by kernel_rfl) ?_
                exact Go.weaken (Fr.c (Fr.c (Fr.c (Fr.c (Fr.c (Fr.c (Fr.c (Fr.c (Fr.c Fr.n))))))))) (J43 _ _ _ hF)
              | false =>
                replace hF := ifB_f hF
                refine W.f ?_
                refine W.skip (by kernel_rfl) ?_
                refine n93 ?_
                refine W.s (fun K96 n96 e96 q96 p96 => ?_)
                refine W.r ?_
                refine WL.a (some 49) (.int .i64 t45) h_85 ?_
                refine WL.a (some 12) (.int .i64 t45) h_85 ?_
                refine WL.n ?_
                refine Go.weaken (l' := [(0, strA t0), (1, .int .i64 t1), (6, (newP h)), (7, strA t19), (8, v20), (9, .int .i64 t21), (10, .bool t22), (11, .int .i64 t11_71), (12, .int .i64 t45)]) (Fr.c (Fr.c (Fr.c (Fr.c (Fr.c (Fr.c (Fr.c (Fr.c (Fr.c Fr.n))))))))) ?_
                refine n96 ?_
                refine W.r ?_
                refine WL.a (some 50) (.int .i64 t11_71) h_85 ?_
                replace hF := lett_some hF; obtain ⟨t51, e97, hF⟩ := hF
                refine WL.val (d := (some 51)) (v := .int .i64 t51) (h' := h_85) (by kernel_rfl) (by kernel_rfl) (val_of (AV.int .i64) e97 (by kernel_rfl)) ?_
                refine WL.a (some 11) (.int .i64 t51) h_85 ?_
                refine WL.n ?_
                refine Go.weaken (l' := [(0, strA t0), (1, .int .i64 t1), (6, (newP h)), (7, strA t19), (8, v20), (9, .int .i64 t21), (10, .bool t22), (11, .int .i64 t51), (12, .int .i64 t45)]) (Fr.c (Fr.c (Fr.c (Fr.c (Fr.c (Fr.c (Fr.c (Fr.c (Fr.c Fr.n))))))))) ?_
                refine n83 ?_
                refine n70 ?_
                exact Go.weaken (Fr.c (Fr.c (Fr.c (Fr.c (Fr.c (Fr.c (Fr.c (Fr.c (Fr.c Fr.n))))))))) (ih70 _ _ _ hF)
            | false =>
              replace hF := ifB_f hF
              refine W.f ?_
              refine W.exit (by kernel_rfl) ?_
              refine e74 ?_
              refine e70 ?_
              refine s42 (by kernel_rfl) ?_
              exact Go.weaken (Fr.c (Fr.c (Fr.c (Fr.c (Fr.c (Fr.c (Fr.c (Fr.c (Fr.c Fr.n))))))))) (J43 _ _ _ hF)
          cases t33 with
          | true =>
            replace hF := ifB_t hF
            refine WL.a (some 35) (strA t0) h_77 ?_
            refine WL.a (some 36) (.int .i64 t12_72) h_77 ?_
            replace hF := obind_some hF; obtain ⟨t37, e98, hF⟩ := hF
            refine WL.b (some 37) (.int .u8 t37) h_77 (index_str (P := Try.prog) (h := h_77) (t := 9) (k := .i64) (by kernel_rfl) e98) ?_
            replace hF := lett_some hF; obtain ⟨t38, e99, hF⟩ := hF
            refine WL.val (d := (some 38)) (v := .bool t38) (h' := h_77) (by kernel_rfl) (by kernel_rfl) (val_of AV.bool e99 (by kernel_rfl)) ?_
            refine WL.a (some 39) (.bool t38) h_77 ?_
            exact WL.weaken (Fr.c (Fr.c (Fr.c (Fr.c (Fr.c (Fr.c (Fr.c (Fr.c (Fr.c (Fr.c Fr.n)))))))))) (J82 _ _ hF)
          | false =>
            replace hF := ifB_f hF
            refine WL.o (some 35) ?_
            refine WL.o (some 36) ?_
            refine WL.o (some 37) ?_
            refine WL.o (some 38) ?_
            refine WL.a (some 39) (.bool false) h_77 ?_
            exact WL.weaken (Fr.c (Fr.c (Fr.c (Fr.c (Fr.c (Fr.c (Fr.c (Fr.c (Fr.c (Fr.c Fr.n)))))))))) (J82 _ _ hF)
        cases t27 with
        | true =>
          replace hF := ifB_t hF
          refine WL.a (some 29) (.int .i64 t12_72) h_73 ?_
          refine WL.a (some 30) (strA t0) h_73 ?_
          refine WL.a (some 31) (.int .i64 (lenS t0)) h_73 ?_
          replace hF := lett_some hF; obtain ⟨t32, e100, hF⟩ := hF
          refine WL.val (d := (some 32)) (v := .bool t32) (h' := h_73) (by kernel_rfl) (by kernel_rfl) (val_of AV.bool e100 (by kernel_rfl)) ?_
          refine WL.a (some 33) (.bool t32) h_73 ?_
          exact WL.weaken (Fr.c (Fr.c (Fr.c (Fr.c (Fr.c (Fr.c (Fr.c (Fr.c (Fr.c (Fr.c Fr.n)))))))))) (J79 _ _ hF)
        | false =>
          replace hF := ifB_f hF
          refine WL.o (some 29) ?_
          refine WL.o (some 30) ?_
          refine WL.o (some 31) ?_
          refine WL.o (some 32) ?_
          refine WL.a (some 33) (.bool false) h_73 ?_
          exact WL.weaken (Fr.c (Fr.c (Fr.c (Fr.c (Fr.c (Fr.c (Fr.c (Fr.c (Fr.c (Fr.c Fr.n)))))))))) (J79 _ _ hF)
    exact Go.weaken (Fr.c (Fr.c (Fr.c (Fr.c (Fr.c (Fr.c (Fr.c (Fr.c (Fr.c Fr.n))))))))) (L70 _ _ _ _ hF)
  | false =>
    replace hF := ifB_f hF
    refine W.f ?_
    refine W.skip (by kernel_rfl) ?_
    exact Go.weaken (Fr.c (Fr.c (Fr.c (Fr.c (Fr.c Fr.n))))) (J17 _ hF)
noncomputable def ref09_Quoted_fn (call : CallF) (n : Nat) : FnT := fun args h => match args with
  | [x0, x1] => obind (avStr x0) fun t0 => obind (avInt .i64 x1) fun t1 => ref09_Quoted call n t0 t1 h
  | _ => none
set_option maxRecDepth 100000 in
theorem ref09_Quoted_fn_eq (call : CallF) (n : Nat) (t0 : Bytes) (t1 : Int) (h : AHeap) : ref09_Quoted_fn call n [strA t0, .int .i64 t1] h = ref09_Quoted call n t0 t1 h :=
  (Eq.trans (obind_eq (fun t0 => obind (avInt .i64 (.int .i64 t1)) fun t1 => ref09_Quoted call n t0 t1 h) (avStr_str t0)) (Eq.trans (obind_eq (fun t1 => ref09_Quoted call n t0 t1 h) (avInt_int .i64 t1)) rfl))
theorem ref09_Quoted_holds {call : CallF} (hc : SaysAll Try.prog call) (n : Nat) : Holds Try.prog 20 (ref09_Quoted_fn call n) := by
  intro args h r h2 e
  unfold ref09_Quoted_fn at e
  split at e
  · replace e := obind_some e; obtain ⟨t0, c0, e⟩ := e; have c0 := avStr_some c0; subst c0
    replace e := obind_some e; obtain ⟨t1, c1, e⟩ := e; have c1 := avInt_some c1; subst c1
    exact ref09_Quoted_ok hc e
  · cases e

noncomputable def ref09_Unquote (call : CallF) (_ : Nat) (t0 : Bytes) (h : AHeap) : R :=
  lett (newH h 27 [.int .i64 0, .int .i64 0]) fun h_2 =>
  callN (call 33 [strA t0, .int .i64 0] h_2) fun r10 h_5 =>
  obind (extT 0 r10) fun v11 =>
  obind (avStr v11) fun t11 =>
  obind (extT 1 r10) fun _ =>
  obind (extT 2 r10) fun v13 =>
  obind (avInt .i64 v13) fun t13 =>
  obind (extT 3 r10) fun v14 =>
  obind (avBool v14) fun t14 =>
  lett (!t14) fun (t16 : Bool) =>
  lett (fun (t22 : Bool) (h_17 : AHeap) =>
    ifB t22
    (
      callN (call 34 [.int .i64 t13] h_17) fun r24 h_21 =>
      obind (avAgg r24) fun t24 =>
      obind (stRow h_21 2 t24 (newP h)) fun h_24 =>
      obind (ldRow h_24 2 (newP h)) fun w3 =>
      some (.ret (.tup [strA ([] : Bytes), .agg w3]), h_24))
    (
      obind (stRow h_17 2 ([.int .i64 0, .int .i64 0] : List AV) (newP h)) fun h_28 =>
      obind (ldRow h_28 2 (newP h)) fun w3_31 =>
      some (.ret (.tup [strA t11, .agg w3_31]), h_28))) fun j22 =>
  ifB t16
  (
    j22 true h_5)
  (
    lett (decide (t13 < (lenS t0))) fun (t21 : Bool) =>
    j22 t21 h_5)
set_option maxHeartbeats 4000000 in
set_option maxRecDepth 20000 in
theorem ref09_Unquote_ok {call : CallF} (hc : SaysAll Try.prog call) {n : Nat} {t0 : Bytes} {h : AHeap} {rR : ARes} {hR : AHeap} (hF : ref09_Unquote call n t0 h = some (rR, hR)) : Says Try.prog 18 [strA t0] h rR hR := by
  unfold ref09_Unquote at hF
  refine says_of (fn := Try.f18) Try.func18 (c := codeOf Try.f18) (by kernel_rfl) (by kernel_rfl) (fun w0 m0 => ?_)
  refine W.weaken (l' := [(0, strA t0)]) (Fr.c Fr.n) ?_
  refine W.s (fun K1 n1 e1 q1 p1 => ?_)
  refine W.r ?_
  refine WL.a (some 2) (strA ([] : Bytes)) h ?_
  replace hF := lett_some hF; obtain ⟨h_2, e3, hF⟩ := hF
  refine WL.val (d := (some 3)) (v := (newP h)) (h' := h_2) (by kernel_rfl) (by kernel_rfl) (val_ofH e3 (by kernel_rfl)) ?_
  refine WL.n ?_
  refine Go.weaken (l' := [(0, strA t0), (3, (newP h))]) (Fr.c (Fr.c Fr.n)) ?_
  refine n1 ?_
  refine W.s (fun K4 n4 e4 q4 p4 => ?_)
  refine W.r ?_
  refine WL.a (some 9) (strA t0) h_2 ?_
  replace hF := callN_some hF; obtain ⟨r10, h_5, e6, hF⟩ := hF
  refine WL.c (hc.ok w0) (some 10) e6 ?_
  refine WL.a (some 8) r10 h_5 ?_
  replace hF := obind_some hF; obtain ⟨v11, e7, hF⟩ := hF
  replace hF := obind_some hF; obtain ⟨t11, c8, hF⟩ := hF
  have c8 := avStr_some c8
  subst c8
  refine WL.b (some 11) (strA t11) h_5 (extract_tup (h := h_5) e7) ?_
  replace hF := obind_some hF; obtain ⟨v12, e9, hF⟩ := hF
  refine WL.b (some 12) v12 h_5 (extract_tup (h := h_5) e9) ?_
  replace hF := obind_some hF; obtain ⟨v13, e10, hF⟩ := hF
  replace hF := obind_some hF; obtain ⟨t13, c11, hF⟩ := hF
  have c11 := avInt_some c11
  subst c11
  refine WL.b (some 13) (.int .i64 t13) h_5 (extract_tup (h := h_5) e10) ?_
  replace hF := obind_some hF; obtain ⟨v14, e12, hF⟩ := hF
  replace hF := obind_some hF; obtain ⟨t14, c13, hF⟩ := hF
  have c13 := avBool_some c13
  subst c13
  refine WL.b (some 14) (.bool t14) h_5 (extract_tup (h := h_5) e12) ?_
  refine WL.a (some 4) (strA t11) h_5 ?_
  refine WL.a (some 5) v12 h_5 ?_
  refine WL.a (some 6) (.int .i64 t13) h_5 ?_
  refine WL.a (some 7) (.bool t14) h_5 ?_
  refine WL.n ?_
  refine Go.weaken (l' := [(0, strA t0), (3, (newP h)), (4, strA t11), (6, .int .i64 t13), (7, .bool t14)]) (Fr.c (Fr.c (Fr.c (Fr.c (Fr.c Fr.n))))) ?_
  refine n4 ?_
  refine W.s (fun K14 n14 e14 q14 p14 => ?_)
  refine W.s (fun K15 n15 e15 q15 p15 => ?_)
  refine W.r ?_
  refine WL.a (some 15) (.bool t14) h_5 ?_
  replace hF := lett_some hF; obtain ⟨t16, e16, hF⟩ := hF
  refine WL.val (d := (some 16)) (v := .bool t16) (h' := h_5) (by kernel_rfl) (by kernel_rfl) (val_of AV.bool e16 (by kernel_rfl)) ?_
  refine WL.a (some 17) (.bool t16) h_5 ?_
  replace hF := lett_some hF; obtain ⟨j22, e18, hF⟩ := hF
  have J19 : ∀ (t22 : Bool) (h_17 : AHeap), j22 t22 h_17 = some (rR, hR) → WL Try.prog w0 m0 (Func.ntmps Try.f18) (Code.ops (Code.p1 (Code.p1 (Code.p2 (Code.p2 (codeOf Try.f18)))))) 8 K15 [(3, (newP h)), (4, strA t11), (6, .int .i64 t13), (22, .bool t22)] [] h_17 := by
    intro t22 h_17 hF
    rw [e18] at hF
    refine WL.n ?_
    refine Go.weaken (l' := [(3, (newP h)), (4, strA t11), (6, .int .i64 t13), (22, .bool t22)]) (Fr.c (Fr.c (Fr.c (Fr.c Fr.n)))) ?_
    refine n15 ?_
    cases t22 with
    | true =>
      replace hF := ifB_t hF
      refine W.t ?_
      refine W.s (fun K20 n20 e20 q20 p20 => ?_)
      refine W.r ?_
      refine WL.a (some 23) (.int .i64 t13) h_17 ?_
      replace hF := callN_some hF; obtain ⟨r24, h_21, e22, hF⟩ := hF
      replace hF := obind_some hF; obtain ⟨t24, c23, hF⟩ := hF
      have c23 := avAgg_some c23
      subst c23
      refine WL.c (hc.ok w0) (some 24) e22 ?_
      refine WL.a (some 2) (strA ([] : Bytes)) h_21 ?_
      replace hF := obind_some hF; obtain ⟨h_24, e25, hF⟩ := hF
      refine WL.e h_24 (store_row (P := Try.prog) (h := h_21) (t := 27) (v := (.agg t24)) (by kernel_rfl) (by kernel_rfl) e25) ?_
      refine WL.n ?_
      refine Go.weaken (l' := [(2, strA ([] : Bytes)), (3, (newP h))]) (Fr.c (Fr.c Fr.n)) ?_
      refine n20 ?_
      refine W.ret (by kernel_rfl) ?_
      refine q14 ?_
      replace hF := obind_some hF; obtain ⟨w3, e26, hF⟩ := hF
      obtain ⟨hF, hF2⟩ := ret_inj hF; subst hF; subst hF2
      exact leave_of (rs := [.tmp 2, .cell 3 27]) (vs := [strA ([] : Bytes), .agg w3]) (by kernel_rfl) (res_tmp (by kernel_rfl) (res_cell (by kernel_rfl) (load_row (P := Try.prog) (h := h_24) (t := 27) (by kernel_rfl) (by kernel_rfl) e26) res_nil)) (by kernel_rfl)
    | false =>
      replace hF := ifB_f hF
      refine W.f ?_
      refine W.skip (by kernel_rfl) ?_
      refine n14 ?_
      refine W.s (fun K27 n27 e27 q27 p27 => ?_)
      refine W.r ?_
      refine WL.a (some 25) (strA t11) h_17 ?_
      refine WL.a (some 26) (.agg ([.int .i64 0, .int .i64 0] : List AV)) h_17 ?_
      refine WL.a (some 2) (strA t11) h_17 ?_
      replace hF := obind_some hF; obtain ⟨h_28, e29, hF⟩ := hF
      refine WL.e h_28 (store_row (P := Try.prog) (h := h_17) (t := 27) (v := (.agg ([.int .i64 0, .int .i64 0] : List AV))) (by kernel_rfl) (by kernel_rfl) e29) ?_
      refine WL.n ?_
      refine Go.weaken (l' := [(2, strA t11), (3, (newP h))]) (Fr.c (Fr.c Fr.n)) ?_
      refine n27 ?_
      refine W.ret (by kernel_rfl) ?_
      replace hF := obind_some hF; obtain ⟨w3_31, e30, hF⟩ := hF
      obtain ⟨hF, hF2⟩ := ret_inj hF; subst hF; subst hF2
      exact leave_of (rs := [.tmp 2, .cell 3 27]) (vs := [strA t11, .agg w3_31]) (by kernel_rfl) (res_tmp (by kernel_rfl) (res_cell (by kernel_rfl) (load_row (P := Try.prog) (h := h_28) (t := 27) (by kernel_rfl) (by kernel_rfl) e30) res_nil)) (by kernel_rfl)
  cases t16 with
  | true =>
    replace hF := ifB_t hF
    refine WL.o (some 18) ?_
    refine WL.o (some 19) ?_
    refine WL.o (some 20) ?_
    refine WL.o (some 21) ?_
    refine WL.a (some 22) (.bool true) h_5 ?_
    exact WL.weaken (Fr.c (Fr.c (Fr.c (Fr.c Fr.n)))) (J19 _ _ hF)
  | false =>
    replace hF := ifB_f hF
    refine WL.a (some 18) (.int .i64 t13) h_5 ?_
    refine WL.a (some 19) (strA t0) h_5 ?_
    refine WL.a (some 20) (.int .i64 (lenS t0)) h_5 ?_
    replace hF := lett_some hF; obtain ⟨t21, e32, hF⟩ := hF
    refine WL.val (d := (some 21)) (v := .bool t21) (h' := h_5) (by kernel_rfl) (by kernel_rfl) (val_of AV.bool e32 (by kernel_rfl)) ?_
    refine WL.a (some 22) (.bool t21) h_5 ?_
    exact WL.weaken (Fr.c (Fr.c (Fr.c (Fr.c Fr.n)))) (J19 _ _ hF)
noncomputable def ref09_Unquote_fn (call : CallF) (n : Nat) : FnT := fun args h => match args with
  | [x0] => obind (avStr x0) fun t0 => ref09_Unquote call n t0 h
  | _ => none
set_option maxRecDepth 100000 in
theorem ref09_Unquote_fn_eq (call : CallF) (n : Nat) (t0 : Bytes) (h : AHeap) : ref09_Unquote_fn call n [strA t0] h = ref09_Unquote call n t0 h :=
  (Eq.trans (obind_eq (fun t0 => ref09_Unquote call n t0 h) (avStr_str t0)) rfl)
theorem ref09_Unquote_holds {call : CallF} (hc : SaysAll Try.prog call) (n : Nat) : Holds Try.prog 18 (ref09_Unquote_fn call n) := by
  intro args h r h2 e
  unfold ref09_Unquote_fn at e
  split at e
  · replace e := obind_some e; obtain ⟨t0, c0, e⟩ := e; have c0 := avStr_some c0; subst c0
    exact ref09_Unquote_ok hc e
  · cases e

noncomputable def ref09_bad (_ : CallF) (_ : Nat) (t0 : Int) (h : AHeap) : R :=
  lett (newH h 27 [.int .i64 0, .int .i64 0]) fun h_2 =>
  obind (stRow h_2 2 ([.int .i64 6, .int .i64 t0] : List AV) (newP h)) fun h_5 =>
  obind (ldRow h_5 2 (newP h)) fun w2 =>
  some (.ret (.agg w2), h_5)
set_option maxHeartbeats 4000000 in
set_option maxRecDepth 20000 in
theorem ref09_bad_ok {call : CallF} (_ : SaysAll Try.prog call) {n : Nat} {t0 : Int} {h : AHeap} {rR : ARes} {hR : AHeap} (hF : ref09_bad call n t0 h = some (rR, hR)) : Says Try.prog 34 [.int .i64 t0] h rR hR := by
  unfold ref09_bad at hF
  refine says_of (fn := Try.f34) Try.func34 (c := codeOf Try.f34) (by kernel_rfl) (by kernel_rfl) (fun w0 m0 => ?_)
  refine W.weaken (l' := [(0, .int .i64 t0)]) (Fr.c Fr.n) ?_
  refine W.s (fun K1 n1 e1 q1 p1 => ?_)
  refine W.r ?_
  replace hF := lett_some hF; obtain ⟨h_2, e3, hF⟩ := hF
  refine WL.val (d := (some 2)) (v := (newP h)) (h' := h_2) (by kernel_rfl) (by kernel_rfl) (val_ofH e3 (by kernel_rfl)) ?_
  refine WL.n ?_
  refine Go.weaken (l' := [(0, .int .i64 t0), (2, (newP h))]) (Fr.c (Fr.c Fr.n)) ?_
  refine n1 ?_
  refine W.s (fun K4 n4 e4 q4 p4 => ?_)
  refine W.r ?_
  refine WL.a (some 3) (.int .i64 t0) h_2 ?_
  refine WL.a (some 4) (.agg ([.int .i64 6, .int .i64 t0] : List AV)) h_2 ?_
  replace hF := obind_some hF; obtain ⟨h_5, e6, hF⟩ := hF
  refine WL.e h_5 (store_row (P := Try.prog) (h := h_2) (t := 27) (v := (.agg ([.int .i64 6, .int .i64 t0] : List AV))) (by kernel_rfl) (by kernel_rfl) e6) ?_
  refine WL.n ?_
  refine Go.weaken (l' := [(2, (newP h))]) (Fr.c Fr.n) ?_
  refine n4 ?_
  refine W.ret (by kernel_rfl) ?_
  replace hF := obind_some hF; obtain ⟨w2, e7, hF⟩ := hF
  obtain ⟨hF, hF2⟩ := ret_inj hF; subst hF; subst hF2
  exact leave_of (rs := [.cell 2 27]) (vs := [.agg w2]) (by kernel_rfl) (res_cell (by kernel_rfl) (load_row (P := Try.prog) (h := h_5) (t := 27) (by kernel_rfl) (by kernel_rfl) e7) res_nil) (by kernel_rfl)
noncomputable def ref09_bad_fn (call : CallF) (n : Nat) : FnT := fun args h => match args with
  | [x0] => obind (avInt .i64 x0) fun t0 => ref09_bad call n t0 h
  | _ => none
set_option maxRecDepth 100000 in
theorem ref09_bad_fn_eq (call : CallF) (n : Nat) (t0 : Int) (h : AHeap) : ref09_bad_fn call n [.int .i64 t0] h = ref09_bad call n t0 h :=
  (Eq.trans (obind_eq (fun t0 => ref09_bad call n t0 h) (avInt_int .i64 t0)) rfl)
theorem ref09_bad_holds {call : CallF} (hc : SaysAll Try.prog call) (n : Nat) : Holds Try.prog 34 (ref09_bad_fn call n) := by
  intro args h r h2 e
  unfold ref09_bad_fn at e
  split at e
  · replace e := obind_some e; obtain ⟨t0, c0, e⟩ := e; have c0 := avInt_some c0; subst c0
    exact ref09_bad_ok hc e
  · cases e

end Go.Proofs.Yteibdplpbcobbaa
