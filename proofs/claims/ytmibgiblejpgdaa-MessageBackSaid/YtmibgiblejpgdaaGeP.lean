/- Plain functions in place of the program's, and that their calls come to what they say. -/
import Derived.Test.YtmibgiblejpgdaaFrame
import Derived.Test.YtmibgiblejpgdaaAbs50
namespace Go.Proofs.Ytmibgiblejpgdaa
open Go.RowKit Abs

noncomputable def message_Encode_L1b (call : CallF) (h_7 : AHeap) (t23 : List AV) (k34 : AHeap → R) (self : Int → AHeap → R) (t24 : Int) (h_134 : AHeap) : R :=
  lett (decide (t24 < 15)) fun (t25 : Bool) =>
  ifB t25
  (
    outK (opIndex Try.prog h_134 62 (some (.agg t23)) (some (.int .i64 t24))) fun v26 h_141 =>
    obind (nilC v26) fun t29 =>
    obind (ldCell h_141 t29) fun v30 =>
    obind (avInt .i64 v30) fun t30 =>
    lett (IntKind.u64.wrap t30) fun (t31 : Int) =>
    callN (call 24 [.int .u64 t31] h_141) fun r32 h_147 =>
    obind (avStr r32) fun t32 =>
    outK (bldSl Try.prog h_147 54 1 [(0, strA t32)]) fun v33 h_150 =>
    callN (dynC Try.prog call (AV.fn 20 [] [(newP h_7)]) [v33] h_150) fun _ h_152 =>
    lett (IntKind.i64.wrap (t24 + 1)) fun (t35 : Int) =>
    self t35 h_152)
  (
    k34 h_134)
noncomputable def message_Encode_L1 (call : CallF) (h_7 : AHeap) (t23 : List AV) (k34 : AHeap → R) : Nat → Int → AHeap → R := iterR (fun _ _ => none) (message_Encode_L1b call h_7 t23 k34)
theorem message_Encode_L1_s (call : CallF) (h_7 : AHeap) (t23 : List AV) (k34 : AHeap → R) (m : Nat) : message_Encode_L1 call h_7 t23 k34 (m + 1) = message_Encode_L1b call h_7 t23 k34 (message_Encode_L1 call h_7 t23 k34 m) := rfl
noncomputable def message_Encode_L0b (call : CallF) (h_7 : AHeap) (v65 : AV) (t66 : Int) (k95 : AHeap → R) (self : Int → AHeap → R) (t67 : Int) (h_102 : AHeap) : R :=
  lett (decide (t67 < t66)) fun (t68 : Bool) =>
  ifB t68
  (
    obind (idxP 2 v65 t67) fun t69 =>
    obind (ldRow h_102 2 t69) fun t70 =>
    lett (newH h_102 42 [.int .i64 0, .str 0 0]) fun h_111 =>
    obind (stRow h_111 2 t70 (newP h_102)) fun h_113 =>
    obind (ldCell h_113 (AV.ptr (AHeap.next h_102) 0)) fun v73 =>
    obind (avInt .i64 v73) fun t73 =>
    lett (IntKind.u64.wrap t73) fun (t74 : Int) =>
    obind (ldCell h_113 (AV.ptr (AHeap.next h_102) 1)) fun v77 =>
    obind (avStr v77) fun t77 =>
    callN (call 24 [.int .u64 t74] h_113) fun r75 h_120 =>
    obind (avStr r75) fun t75 =>
    chk (reLoad Try.prog h_120 9 (AV.ptr (AHeap.next h_102) 1) (strA t77) && (true && true)) <|
    callN (call 27 [strA t77] h_120) fun r78 h_124 =>
    obind (avStr r78) fun t78 =>
    outK (bldSl Try.prog h_124 54 2 [(0, strA t75), (1, strA t78)]) fun v79 h_127 =>
    callN (dynC Try.prog call (AV.fn 20 [] [(newP h_7)]) [v79] h_127) fun _ h_129 =>
    lett (IntKind.i64.wrap (t67 + 1)) fun (t81 : Int) =>
    self t81 h_129)
  (
    k95 h_102)
noncomputable def message_Encode_L0 (call : CallF) (h_7 : AHeap) (v65 : AV) (t66 : Int) (k95 : AHeap → R) : Nat → Int → AHeap → R := iterR (fun _ _ => none) (message_Encode_L0b call h_7 v65 t66 k95)
theorem message_Encode_L0_s (call : CallF) (h_7 : AHeap) (v65 : AV) (t66 : Int) (k95 : AHeap → R) (m : Nat) : message_Encode_L0 call h_7 v65 t66 k95 (m + 1) = message_Encode_L0b call h_7 v65 t66 k95 (message_Encode_L0 call h_7 v65 t66 k95 m) := rfl
noncomputable def message_Encode (call : CallF) (n : Nat) (t0 : List AV) (h : AHeap) : R :=
  outK (opBox h 30 (some (.agg t0))) fun v1 h_2 =>
  obind (ldRow h_2 22 v1) fun t11 =>
  callN (call 12 [.agg t11] h_2) fun r12 h_7 =>
  obind (avInt .i64 r12) fun t12 =>
  lett ((t12 : Int) != 0) fun (t14 : Bool) =>
  ifB t14
  (
    some (.ret (.tup [strA ([] : Bytes), .int .i64 t12]), h_7))
  (
    lett (newH h_7 53 [.nilp, .nsl]) fun h_14 =>
    obind (fldP 0 v1) fun t18 =>
    obind (ldCell h_14 t18) fun v19 =>
    obind (avInt .u8 v19) fun t19 =>
    callN (call 22 [.int .u8 t19] h_14) fun r20 h_21 =>
    obind (avStr r20) fun t20 =>
    outK (bldSl Try.prog h_21 54 1 [(0, strA t20)]) fun v21 h_24 =>
    callN (dynC Try.prog call (AV.fn 20 [] [(newP h_7)]) [v21] h_24) fun _ h_26 =>
    callN (call 23 [v1] h_26) fun r23 h_30 =>
    obind (avAgg r23) fun t23 =>
    lett (fun  (h_35 : AHeap) =>
      obind (fldP 8 v1) fun t37 =>
      obind (ldCell h_35 t37) fun v38 =>
      obind (avBool v38) fun t38 =>
      obind (fldP 19 v1) fun t40 =>
      obind (ldCell h_35 t40) fun v41 =>
      obind (avInt .u8 v41) fun t41 =>
      obind (fldP 20 v1) fun t43 =>
      obind (ldCell h_35 t43) fun v44 =>
      obind (avInt .i64 v44) fun t44 =>
      lett (IntKind.u32.wrap t44) fun (t45 : Int) =>
      obind (fldP 21 v1) fun t47 =>
      obind (ldCell h_35 t47) fun v48 =>
      obind (avInt .i64 v48) fun t48 =>
      lett (IntKind.u8.wrap t48) fun (t49 : Int) =>
      obind (fldP 12 v1) fun t51 =>
      obind (ldCell h_35 t51) fun v52 =>
      obind (avStr v52) fun t52 =>
      callN (call 25 [.bool t38] h_35) fun r39 h_54 =>
      obind (avStr r39) fun t39 =>
      chk (reLoad Try.prog h_54 9 t51 (strA t52) && (reLoad Try.prog h_54 3 t47 (.int .i64 t48) && (reLoad Try.prog h_54 23 t43 (.int .i64 t44) && (reLoad Try.prog h_54 5 t40 (.int .u8 t41) && (true && true))))) <|
      callN (call 22 [.int .u8 t41] h_54) fun r42 h_58 =>
      obind (avStr r42) fun t42 =>
      chk (reLoad Try.prog h_58 9 t51 (strA t52) && (reLoad Try.prog h_58 3 t47 (.int .i64 t48) && (reLoad Try.prog h_58 23 t43 (.int .i64 t44) && (true && (true && true))))) <|
      callN (call 26 [.int .u32 t45] h_58) fun r46 h_62 =>
      obind (avStr r46) fun t46 =>
      chk (reLoad Try.prog h_62 9 t51 (strA t52) && (reLoad Try.prog h_62 3 t47 (.int .i64 t48) && (true && (true && (true && true))))) <|
      callN (call 22 [.int .u8 t49] h_62) fun r50 h_66 =>
      obind (avStr r50) fun t50 =>
      chk (reLoad Try.prog h_66 9 t51 (strA t52) && (true && (true && (true && (true && true))))) <|
      callN (call 27 [strA t52] h_66) fun r53 h_70 =>
      obind (avStr r53) fun t53 =>
      outK (bldSl Try.prog h_70 54 5 [(0, strA t39), (1, strA t42), (2, strA t46), (3, strA t50), (4, strA t53)]) fun v54 h_73 =>
      callN (dynC Try.prog call (AV.fn 20 [] [(newP h_7)]) [v54] h_73) fun _ h_75 =>
      obind (fldP 9 v1) fun t57 =>
      obind (ldCell h_75 t57) fun v58 =>
      obind (lenL v58) fun t59 =>
      lett (IntKind.u8.wrap t59) fun (t60 : Int) =>
      callN (call 22 [.int .u8 t60] h_75) fun r61 h_82 =>
      obind (avStr r61) fun t61 =>
      outK (bldSl Try.prog h_82 54 1 [(0, strA t61)]) fun v62 h_85 =>
      callN (dynC Try.prog call (AV.fn 20 [] [(newP h_7)]) [v62] h_85) fun _ h_87 =>
      obind (fldP 9 v1) fun t64 =>
      obind (ldCell h_87 t64) fun v65 =>
      obind (lenL v65) fun t66 =>
      lett (fun  (h_96 : AHeap) =>
        callN (call 28 [(newP h_7)] h_96) fun r82 h_98 =>
        obind (avStr r82) fun t82 =>
        some (.ret (.tup [strA t82, .int .i64 0]), h_98)) fun k95 =>
      message_Encode_L0 call h_7 v65 t66 k95 n 0 h_87) fun k34 =>
    message_Encode_L1 call h_7 t23 k34 n 0 h_30)
set_option maxHeartbeats 4000000 in
set_option maxRecDepth 20000 in
theorem message_Encode_ok {call : CallF} (hc : SaysAll Try.prog call) {n : Nat} {t0 : List AV} {h : AHeap} {rR : ARes} {hR : AHeap} (hF : message_Encode call n t0 h = some (rR, hR)) : Says Try.prog 9 [.agg t0] h rR hR := by
  unfold message_Encode at hF
  refine says_of (fn := Try.f9) Try.func9 (c := codeOf Try.f9) (by kernel_rfl) (by kernel_rfl) (fun w0 m0 => ?_)
  refine W.weaken (l' := [(0, .agg t0)]) (Fr.c Fr.n) ?_
  refine W.s (fun K1 n1 e1 q1 p1 => ?_)
  refine W.r ?_
  replace hF := outK_some hF; obtain ⟨v1, h_2, e3, hF⟩ := hF
  refine WL.b (some 1) v1 h_2 e3 ?_
  refine WL.a (some 2) (strA ([] : Bytes)) h_2 ?_
  refine WL.a (some 3) (.int .i64 0) h_2 ?_
  refine WL.n ?_
  refine Go.weaken (l' := [(1, v1)]) (Fr.c Fr.n) ?_
  refine n1 ?_
  refine W.s (fun K4 n4 e4 q4 p4 => ?_)
  refine W.s (fun K5 n5 e5 q5 p5 => ?_)
  refine W.r ?_
  replace hF := obind_some hF; obtain ⟨t11, e6, hF⟩ := hF
  refine WL.b (some 11) (.agg t11) h_2 (load_row (P := Try.prog) (h := h_2) (t := 30) (by kernel_rfl) (by kernel_rfl) e6) ?_
  replace hF := callN_some hF; obtain ⟨r12, h_7, e8, hF⟩ := hF
  replace hF := obind_some hF; obtain ⟨t12, c9, hF⟩ := hF
  have c9 := avInt_some c9
  subst c9
  refine WL.c (hc.ok w0) (some 12) e8 ?_
  refine WL.a (some 4) (.int .i64 t12) h_7 ?_
  refine WL.n ?_
  refine Go.weaken (l' := [(1, v1), (4, .int .i64 t12)]) (Fr.c (Fr.c Fr.n)) ?_
  refine n5 ?_
  refine W.s (fun K10 n10 e10 q10 p10 => ?_)
  refine W.r ?_
  refine WL.a (some 13) (.int .i64 t12) h_7 ?_
  replace hF := lett_some hF; obtain ⟨t14, e11, hF⟩ := hF
  refine WL.val (d := (some 14)) (v := .bool t14) (h' := h_7) (by kernel_rfl) (by kernel_rfl) (val_of AV.bool e11 (by kernel_rfl)) ?_
  refine WL.n ?_
  refine Go.weaken (l' := [(1, v1), (4, .int .i64 t12), (14, .bool t14)]) (Fr.c (Fr.c (Fr.c Fr.n))) ?_
  refine n10 ?_
  cases t14 with
  | true =>
    replace hF := ifB_t hF
    refine W.t ?_
    refine W.s (fun K12 n12 e12 q12 p12 => ?_)
    refine W.r ?_
    refine WL.a (some 15) (.int .i64 t12) h_7 ?_
    refine WL.a (some 2) (strA ([] : Bytes)) h_7 ?_
    refine WL.a (some 3) (.int .i64 t12) h_7 ?_
    refine WL.n ?_
    refine Go.weaken (l' := [(2, strA ([] : Bytes)), (3, .int .i64 t12)]) (Fr.c (Fr.c Fr.n)) ?_
    refine n12 ?_
    refine W.ret (by kernel_rfl) ?_
    refine q4 ?_
    obtain ⟨hF, hF2⟩ := ret_inj hF; subst hF; subst hF2
    exact leave_of (rs := [.tmp 2, .tmp 3]) (vs := [strA ([] : Bytes), .int .i64 t12]) (by kernel_rfl) (res_tmp (by kernel_rfl) (res_tmp (by kernel_rfl) res_nil)) (by kernel_rfl)
  | false =>
    replace hF := ifB_f hF
    refine W.f ?_
    refine W.skip (by kernel_rfl) ?_
    refine n4 ?_
    refine W.s (fun K13 n13 e13 q13 p13 => ?_)
    refine W.r ?_
    replace hF := lett_some hF; obtain ⟨h_14, e15, hF⟩ := hF
    refine WL.val (d := (some 5)) (v := (newP h_7)) (h' := h_14) (by kernel_rfl) (by kernel_rfl) (val_ofH e15 (by kernel_rfl)) ?_
    refine WL.n ?_
    refine Go.weaken (l' := [(1, v1), (5, (newP h_7))]) (Fr.c (Fr.c Fr.n)) ?_
    refine n13 ?_
    refine W.s (fun K16 n16 e16 q16 p16 => ?_)
    refine W.r ?_
    refine WL.a (some 16) (AV.fn 20 [] [(newP h_7)]) h_14 ?_
    refine WL.a (some 6) (AV.fn 20 [] [(newP h_7)]) h_14 ?_
    refine WL.n ?_
    refine Go.weaken (l' := [(1, v1), (5, (newP h_7)), (6, (AV.fn 20 [] [(newP h_7)]))]) (Fr.c (Fr.c (Fr.c Fr.n))) ?_
    refine n16 ?_
    refine W.s (fun K17 n17 e17 q17 p17 => ?_)
    refine W.r ?_
    refine WL.a (some 17) (AV.fn 20 [] [(newP h_7)]) h_14 ?_
    replace hF := obind_some hF; obtain ⟨t18, e18, hF⟩ := hF
    refine WL.b (some 18) t18 h_14 (field_ptr (P := Try.prog) (h := h_14) (s := 30) (f := 0) (by kernel_rfl) e18) ?_
    replace hF := obind_some hF; obtain ⟨v19, e19, hF⟩ := hF
    replace hF := obind_some hF; obtain ⟨t19, c20, hF⟩ := hF
    have c20 := avInt_some c20
    subst c20
    refine WL.b (some 19) (.int .u8 t19) h_14 (load_cell (P := Try.prog) (h := h_14) (t := 5) (by kernel_rfl) e19) ?_
    replace hF := callN_some hF; obtain ⟨r20, h_21, e22, hF⟩ := hF
    replace hF := obind_some hF; obtain ⟨t20, c23, hF⟩ := hF
    have c23 := avStr_some c23
    subst c23
    refine WL.c (hc.ok w0) (some 20) e22 ?_
    replace hF := outK_some hF; obtain ⟨v21, h_24, e25, hF⟩ := hF
    refine WL.b (some 21) v21 h_24 e25 ?_
    replace hF := callN_some hF; obtain ⟨r22, h_26, e27, hF⟩ := hF
    rcases dynC_some e27 with ⟨d156g, d156as, d156h, d1561, d1562⟩ | ⟨d156v, d156h, d1561, d1562⟩
    rotate_left
    · cases d1562
      refine WL.val (d := (some 22)) (by kernel_rfl) (by kernel_rfl) (Eq.trans (by kernel_rfl) d1561) ?_
      refine WL.n ?_
      refine Go.weaken (l' := [(1, v1), (5, (newP h_7)), (6, (AV.fn 20 [] [(newP h_7)]))]) (Fr.c (Fr.c (Fr.c Fr.n))) ?_
      refine n17 ?_
      refine W.s (fun K28 n28 e28 q28 p28 => ?_)
      refine W.s (fun K29 n29 e29 q29 p29 => ?_)
      refine W.r ?_
      replace hF := callN_some hF; obtain ⟨r23, h_30, e31, hF⟩ := hF
      replace hF := obind_some hF; obtain ⟨t23, c32, hF⟩ := hF
      have c32 := avAgg_some c32
      subst c32
      refine WL.c (hc.ok w0) (some 23) e31 ?_
      refine WL.a (some 24) (.int .i64 0) h_30 ?_
      refine WL.n ?_
      refine Go.weaken (l' := [(1, v1), (5, (newP h_7)), (6, (AV.fn 20 [] [(newP h_7)])), (23, .agg t23), (24, .int .i64 0)]) (Fr.c (Fr.c (Fr.c (Fr.c (Fr.c Fr.n))))) ?_
      refine n29 ?_
      replace hF := lett_some hF; obtain ⟨k34, e34, hF⟩ := hF
      have J34 : ∀  (h_35 : AHeap), k34 h_35 = some (rR, hR) → Go w0 m0 (Func.ntmps Try.f9) (K28 .normal) [(1, v1), (5, (newP h_7)), (6, (AV.fn 20 [] [(newP h_7)]))] [] h_35 := by
        intro  h_35 hF
        rw [e34] at hF
        refine n28 ?_
        refine W.s (fun K36 n36 e36 q36 p36 => ?_)
        refine W.draw (by kernel_rfl) (hc.ok w0) (plan := [0, 1, 2, 4, 5, 7, 8, 9, 11, 12, 13, 15, 16, 3, 6, 10, 14, 17, 18, 19]) (by kernel_rfl) (by kernel_rfl) (by kernel_rfl) ?_
        refine WD.a 0 (some 36) (AV.fn 20 [] [(newP h_7)]) h_35 ?_
        replace hF := obind_some hF; obtain ⟨t37, e37, hF⟩ := hF
        refine WD.b 0 (some 37) t37 h_35 (field_ptr (P := Try.prog) (h := h_35) (s := 30) (f := 8) (by kernel_rfl) e37) ?_
        replace hF := obind_some hF; obtain ⟨v38, e38, hF⟩ := hF
        replace hF := obind_some hF; obtain ⟨t38, c39, hF⟩ := hF
        have c39 := avBool_some c39
        subst c39
        refine WD.b 1 (some 38) (.bool t38) h_35 (load_cell (P := Try.prog) (h := h_35) (t := 4) (by kernel_rfl) e38) ?_
        replace hF := obind_some hF; obtain ⟨t40, e40, hF⟩ := hF
        refine WD.b 0 (some 40) t40 h_35 (field_ptr (P := Try.prog) (h := h_35) (s := 30) (f := 18) (by kernel_rfl) e40) ?_
        replace hF := obind_some hF; obtain ⟨v41, e41, hF⟩ := hF
        replace hF := obind_some hF; obtain ⟨t41, c42, hF⟩ := hF
        have c42 := avInt_some c42
        subst c42
        refine WD.b 1 (some 41) (.int .u8 t41) h_35 (load_cell (P := Try.prog) (h := h_35) (t := 5) (by kernel_rfl) e41) ?_
        replace hF := obind_some hF; obtain ⟨t43, e43, hF⟩ := hF
        refine WD.b 0 (some 43) t43 h_35 (field_ptr (P := Try.prog) (h := h_35) (s := 30) (f := 19) (by kernel_rfl) e43) ?_
        replace hF := obind_some hF; obtain ⟨v44, e44, hF⟩ := hF
        replace hF := obind_some hF; obtain ⟨t44, c45, hF⟩ := hF
        have c45 := avInt_some c45
        subst c45
        refine WD.b 1 (some 44) (.int .i64 t44) h_35 (load_cell (P := Try.prog) (h := h_35) (t := 23) (by kernel_rfl) e44) ?_
        replace hF := lett_some hF; obtain ⟨t45, e46, hF⟩ := hF
        refine WD.val (d := (some 45)) (v := .int .u32 t45) (h' := h_35) (by kernel_rfl) (by kernel_rfl) (val_of (AV.int .u32) e46 (by kernel_rfl)) (k := 0) (by kernel_rfl) (fun e => absurd e (by decide)) (by decide) ?_
        replace hF := obind_some hF; obtain ⟨t47, e47, hF⟩ := hF
        refine WD.b 0 (some 47) t47 h_35 (field_ptr (P := Try.prog) (h := h_35) (s := 30) (f := 20) (by kernel_rfl) e47) ?_
        replace hF := obind_some hF; obtain ⟨v48, e48, hF⟩ := hF
        replace hF := obind_some hF; obtain ⟨t48, c49, hF⟩ := hF
        have c49 := avInt_some c49
        subst c49
        refine WD.b 1 (some 48) (.int .i64 t48) h_35 (load_cell (P := Try.prog) (h := h_35) (t := 3) (by kernel_rfl) e48) ?_
        replace hF := lett_some hF; obtain ⟨t49, e50, hF⟩ := hF
        refine WD.val (d := (some 49)) (v := .int .u8 t49) (h' := h_35) (by kernel_rfl) (by kernel_rfl) (val_of (AV.int .u8) e50 (by kernel_rfl)) (k := 0) (by kernel_rfl) (fun e => absurd e (by decide)) (by decide) ?_
        replace hF := obind_some hF; obtain ⟨t51, e51, hF⟩ := hF
        refine WD.b 0 (some 51) t51 h_35 (field_ptr (P := Try.prog) (h := h_35) (s := 30) (f := 12) (by kernel_rfl) e51) ?_
        replace hF := obind_some hF; obtain ⟨v52, e52, hF⟩ := hF
        replace hF := obind_some hF; obtain ⟨t52, c53, hF⟩ := hF
        have c53 := avStr_some c53
        subst c53
        refine WD.b 1 (some 52) (strA t52) h_35 (load_cell (P := Try.prog) (h := h_35) (t := 9) (by kernel_rfl) e52) ?_
        replace hF := callN_some hF; obtain ⟨r39, h_54, e55, hF⟩ := hF
        replace hF := obind_some hF; obtain ⟨t39, c56, hF⟩ := hF
        have c56 := avStr_some c56
        subst c56
        replace hF := chk_some hF; obtain ⟨k57, hF⟩ := hF
        refine WD.call (d := (some 39)) (by kernel_rfl) (by kernel_rfl) (by kernel_rfl) e55 (k := 2) (by kernel_rfl) (fun _ => (Eq.trans (by kernel_rfl) k57)) (by decide) ?_
        replace hF := callN_some hF; obtain ⟨r42, h_58, e59, hF⟩ := hF
        replace hF := obind_some hF; obtain ⟨t42, c60, hF⟩ := hF
        have c60 := avStr_some c60
        subst c60
        replace hF := chk_some hF; obtain ⟨k61, hF⟩ := hF
        refine WD.call (d := (some 42)) (by kernel_rfl) (by kernel_rfl) (by kernel_rfl) e59 (k := 2) (by kernel_rfl) (fun _ => (Eq.trans (by kernel_rfl) k61)) (by decide) ?_
        replace hF := callN_some hF; obtain ⟨r46, h_62, e63, hF⟩ := hF
        replace hF := obind_some hF; obtain ⟨t46, c64, hF⟩ := hF
        have c64 := avStr_some c64
        subst c64
        replace hF := chk_some hF; obtain ⟨k65, hF⟩ := hF
        refine WD.call (d := (some 46)) (by kernel_rfl) (by kernel_rfl) (by kernel_rfl) e63 (k := 2) (by kernel_rfl) (fun _ => (Eq.trans (by kernel_rfl) k65)) (by decide) ?_
        replace hF := callN_some hF; obtain ⟨r50, h_66, e67, hF⟩ := hF
        replace hF := obind_some hF; obtain ⟨t50, c68, hF⟩ := hF
        have c68 := avStr_some c68
        subst c68
        replace hF := chk_some hF; obtain ⟨k69, hF⟩ := hF
        refine WD.call (d := (some 50)) (by kernel_rfl) (by kernel_rfl) (by kernel_rfl) e67 (k := 2) (by kernel_rfl) (fun _ => (Eq.trans (by kernel_rfl) k69)) (by decide) ?_
        replace hF := callN_some hF; obtain ⟨r53, h_70, e71, hF⟩ := hF
        replace hF := obind_some hF; obtain ⟨t53, c72, hF⟩ := hF
        have c72 := avStr_some c72
        subst c72
        refine WD.call (d := (some 53)) (by kernel_rfl) (by kernel_rfl) (by kernel_rfl) e71 (k := 2) (by kernel_rfl) (fun _ => (by kernel_rfl)) (by decide) ?_
        replace hF := outK_some hF; obtain ⟨v54, h_73, e74, hF⟩ := hF
        refine WD.val (d := (some 54)) (v := v54) (h' := h_73) (by kernel_rfl) (by kernel_rfl) (Eq.trans (by kernel_rfl) e74) (k := 2) (by kernel_rfl) (fun _ => (by kernel_rfl)) (by decide) ?_
        replace hF := callN_some hF; obtain ⟨r55, h_75, e76, hF⟩ := hF
        refine WD.dyn (d := (some 55)) (by kernel_rfl) (by kernel_rfl) (by kernel_rfl) e76 (k := 2) (by kernel_rfl) (fun _ => (by kernel_rfl)) (by decide) ?_
        refine WD.nil ?_
        refine Go.weaken (l' := [(1, v1), (5, (newP h_7)), (6, (AV.fn 20 [] [(newP h_7)]))]) (Fr.c (Fr.c (Fr.c Fr.n))) ?_
        refine n36 ?_
        refine W.s (fun K77 n77 e77 q77 p77 => ?_)
        refine W.r ?_
        refine WL.a (some 56) (AV.fn 20 [] [(newP h_7)]) h_75 ?_
        replace hF := obind_some hF; obtain ⟨t57, e78, hF⟩ := hF
        refine WL.b (some 57) t57 h_75 (field_ptr (P := Try.prog) (h := h_75) (s := 30) (f := 9) (by kernel_rfl) e78) ?_
        replace hF := obind_some hF; obtain ⟨v58, e79, hF⟩ := hF
        refine WL.b (some 58) v58 h_75 (load_cell (P := Try.prog) (h := h_75) (t := 26) (by kernel_rfl) e79) ?_
        replace hF := obind_some hF; obtain ⟨t59, e80, hF⟩ := hF
        refine WL.b (some 59) (.int .i64 t59) h_75 (len_row (P := Try.prog) (h := h_75) (t := 26) (e' := 42) (by kernel_rfl) e80) ?_
        replace hF := lett_some hF; obtain ⟨t60, e81, hF⟩ := hF
        refine WL.val (d := (some 60)) (v := .int .u8 t60) (h' := h_75) (by kernel_rfl) (by kernel_rfl) (val_of (AV.int .u8) e81 (by kernel_rfl)) ?_
        replace hF := callN_some hF; obtain ⟨r61, h_82, e83, hF⟩ := hF
        replace hF := obind_some hF; obtain ⟨t61, c84, hF⟩ := hF
        have c84 := avStr_some c84
        subst c84
        refine WL.c (hc.ok w0) (some 61) e83 ?_
        replace hF := outK_some hF; obtain ⟨v62, h_85, e86, hF⟩ := hF
        refine WL.b (some 62) v62 h_85 e86 ?_
        replace hF := callN_some hF; obtain ⟨r63, h_87, e88, hF⟩ := hF
        rcases dynC_some e88 with ⟨d132g, d132as, d132h, d1321, d1322⟩ | ⟨d132v, d132h, d1321, d1322⟩
        rotate_left
        · cases d1322
          refine WL.val (d := (some 63)) (by kernel_rfl) (by kernel_rfl) (Eq.trans (by kernel_rfl) d1321) ?_
          refine WL.n ?_
          refine Go.weaken (l' := [(1, v1), (5, (newP h_7)), (6, (AV.fn 20 [] [(newP h_7)]))]) (Fr.c (Fr.c (Fr.c Fr.n))) ?_
          refine n77 ?_
          refine W.s (fun K89 n89 e89 q89 p89 => ?_)
          refine W.s (fun K90 n90 e90 q90 p90 => ?_)
          refine W.r ?_
          replace hF := obind_some hF; obtain ⟨t64, e91, hF⟩ := hF
          refine WL.b (some 64) t64 h_87 (field_ptr (P := Try.prog) (h := h_87) (s := 30) (f := 9) (by kernel_rfl) e91) ?_
          replace hF := obind_some hF; obtain ⟨v65, e92, hF⟩ := hF
          refine WL.b (some 65) v65 h_87 (load_cell (P := Try.prog) (h := h_87) (t := 26) (by kernel_rfl) e92) ?_
          replace hF := obind_some hF; obtain ⟨t66, e93, hF⟩ := hF
          refine WL.b (some 66) (.int .i64 t66) h_87 (len_row (P := Try.prog) (h := h_87) (t := 26) (e' := 42) (by kernel_rfl) e93) ?_
          refine WL.a (some 67) (.int .i64 0) h_87 ?_
          refine WL.n ?_
          refine Go.weaken (l' := [(5, (newP h_7)), (6, (AV.fn 20 [] [(newP h_7)])), (65, v65), (66, .int .i64 t66), (67, .int .i64 0)]) (Fr.c (Fr.c (Fr.c (Fr.c (Fr.c Fr.n))))) ?_
          refine n90 ?_
          replace hF := lett_some hF; obtain ⟨k95, e95, hF⟩ := hF
          have J95 : ∀  (h_96 : AHeap), k95 h_96 = some (rR, hR) → Go w0 m0 (Func.ntmps Try.f9) (K89 .normal) [(5, (newP h_7))] [] h_96 := by
            intro  h_96 hF
            rw [e95] at hF
            refine n89 ?_
            refine W.s (fun K97 n97 e97 q97 p97 => ?_)
            refine W.r ?_
            replace hF := callN_some hF; obtain ⟨r82, h_98, e99, hF⟩ := hF
            replace hF := obind_some hF; obtain ⟨t82, c100, hF⟩ := hF
            have c100 := avStr_some c100
            subst c100
            refine WL.c (hc.ok w0) (some 82) e99 ?_
            refine WL.a (some 2) (strA t82) h_98 ?_
            refine WL.a (some 3) (.int .i64 0) h_98 ?_
            refine WL.n ?_
            refine Go.weaken (l' := [(2, strA t82), (3, .int .i64 0)]) (Fr.c (Fr.c Fr.n)) ?_
            refine n97 ?_
            refine W.ret (by kernel_rfl) ?_
            obtain ⟨hF, hF2⟩ := ret_inj hF; subst hF; subst hF2
            exact leave_of (rs := [.tmp 2, .tmp 3]) (vs := [strA t82, .int .i64 0]) (by kernel_rfl) (res_tmp (by kernel_rfl) (res_tmp (by kernel_rfl) res_nil)) (by kernel_rfl)
          refine W.blockK (by kernel_rfl) (fun K94 n94 s94 o94 q94 p94 => ?_)
          refine W.loopK (by kernel_rfl) (fun I101 K101 b101 n101 e101 q101 p101 => ?_)
          have L101 : ∀ (m : Nat) (t67 : Int) (h_102 : AHeap), message_Encode_L0 call h_7 v65 t66 k95 m t67 h_102 = some (rR, hR) → Go w0 m0 (Func.ntmps Try.f9) I101 [(5, (newP h_7)), (6, (AV.fn 20 [] [(newP h_7)])), (65, v65), (66, .int .i64 t66), (67, .int .i64 t67)] [] h_102 := by
            intro m
            induction m with
            | zero => intro t67 h_102 hF; cases hF
            | succ m ih101 =>
              intro t67 h_102 hF
              rw [message_Encode_L0_s] at hF; unfold message_Encode_L0b at hF
              refine b101 ?_
              refine W.s (fun K103 n103 e103 q103 p103 => ?_)
              refine W.r ?_
              replace hF := lett_some hF; obtain ⟨t68, e104, hF⟩ := hF
              refine WL.val (d := (some 68)) (v := .bool t68) (h' := h_102) (by kernel_rfl) (by kernel_rfl) (val_of AV.bool e104 (by kernel_rfl)) ?_
              refine WL.n ?_
              refine Go.weaken (l' := [(5, (newP h_7)), (6, (AV.fn 20 [] [(newP h_7)])), (65, v65), (66, .int .i64 t66), (67, .int .i64 t67), (68, .bool t68)]) (Fr.c (Fr.c (Fr.c (Fr.c (Fr.c (Fr.c Fr.n)))))) ?_
              refine n103 ?_
              refine W.s (fun K105 n105 e105 q105 p105 => ?_)
              cases t68 with
              | true =>
                replace hF := ifB_t hF
                refine W.t ?_
                refine W.skip (by kernel_rfl) ?_
                refine n105 ?_
                refine W.s (fun K106 n106 e106 q106 p106 => ?_)
                refine W.blockK (by kernel_rfl) (fun K107 n107 s107 o107 q107 p107 => ?_)
                refine W.s (fun K108 n108 e108 q108 p108 => ?_)
                refine W.r ?_
                replace hF := obind_some hF; obtain ⟨t69, e109, hF⟩ := hF
                refine WL.b (some 69) t69 h_102 (index_row (P := Try.prog) (h := h_102) (t := 26) (e' := 42) (k := .i64) (by kernel_rfl) (by kernel_rfl) (by kernel_rfl) e109) ?_
                replace hF := obind_some hF; obtain ⟨t70, e110, hF⟩ := hF
                refine WL.b (some 70) (.agg t70) h_102 (load_row (P := Try.prog) (h := h_102) (t := 42) (by kernel_rfl) (by kernel_rfl) e110) ?_
                replace hF := lett_some hF; obtain ⟨h_111, e112, hF⟩ := hF
                refine WL.val (d := (some 10)) (v := (newP h_102)) (h' := h_111) (by kernel_rfl) (by kernel_rfl) (val_ofH e112 (by kernel_rfl)) ?_
                replace hF := obind_some hF; obtain ⟨h_113, e114, hF⟩ := hF
                refine WL.e h_113 (store_row (P := Try.prog) (h := h_111) (t := 42) (v := (.agg t70)) (by kernel_rfl) (by kernel_rfl) e114) ?_
                refine WL.n ?_
                refine Go.weaken (l' := [(5, (newP h_7)), (6, (AV.fn 20 [] [(newP h_7)])), (10, (newP h_102)), (65, v65), (66, .int .i64 t66), (67, .int .i64 t67)]) (Fr.c (Fr.c (Fr.c (Fr.c (Fr.c (Fr.c Fr.n)))))) ?_
                refine n108 ?_
                refine W.draw (by kernel_rfl) (hc.ok w0) (plan := [0, 1, 2, 3, 5, 6, 4, 7, 8, 9]) (by kernel_rfl) (by kernel_rfl) (by kernel_rfl) ?_
                refine WD.a 0 (some 71) (AV.fn 20 [] [(newP h_7)]) h_113 ?_
                refine WD.a 0 (some 72) (AV.ptr (AHeap.next h_102) 0) h_113 ?_
                replace hF := obind_some hF; obtain ⟨v73, e115, hF⟩ := hF
                replace hF := obind_some hF; obtain ⟨t73, c116, hF⟩ := hF
                have c116 := avInt_some c116
                subst c116
                refine WD.b 1 (some 73) (.int .i64 t73) h_113 (load_cell (P := Try.prog) (h := h_113) (t := 3) (by kernel_rfl) e115) ?_
                replace hF := lett_some hF; obtain ⟨t74, e117, hF⟩ := hF
                refine WD.val (d := (some 74)) (v := .int .u64 t74) (h' := h_113) (by kernel_rfl) (by kernel_rfl) (val_of (AV.int .u64) e117 (by kernel_rfl)) (k := 0) (by kernel_rfl) (fun e => absurd e (by decide)) (by decide) ?_
                refine WD.a 0 (some 76) (AV.ptr (AHeap.next h_102) 1) h_113 ?_
                replace hF := obind_some hF; obtain ⟨v77, e118, hF⟩ := hF
                replace hF := obind_some hF; obtain ⟨t77, c119, hF⟩ := hF
                have c119 := avStr_some c119
                subst c119
                refine WD.b 1 (some 77) (strA t77) h_113 (load_cell (P := Try.prog) (h := h_113) (t := 9) (by kernel_rfl) e118) ?_
                replace hF := callN_some hF; obtain ⟨r75, h_120, e121, hF⟩ := hF
                replace hF := obind_some hF; obtain ⟨t75, c122, hF⟩ := hF
                have c122 := avStr_some c122
                subst c122
                replace hF := chk_some hF; obtain ⟨k123, hF⟩ := hF
                refine WD.call (d := (some 75)) (by kernel_rfl) (by kernel_rfl) (by kernel_rfl) e121 (k := 2) (by kernel_rfl) (fun _ => (Eq.trans (by kernel_rfl) k123)) (by decide) ?_
                replace hF := callN_some hF; obtain ⟨r78, h_124, e125, hF⟩ := hF
                replace hF := obind_some hF; obtain ⟨t78, c126, hF⟩ := hF
                have c126 := avStr_some c126
                subst c126
                refine WD.call (d := (some 78)) (by kernel_rfl) (by kernel_rfl) (by kernel_rfl) e125 (k := 2) (by kernel_rfl) (fun _ => (by kernel_rfl)) (by decide) ?_
                replace hF := outK_some hF; obtain ⟨v79, h_127, e128, hF⟩ := hF
                refine WD.val (d := (some 79)) (v := v79) (h' := h_127) (by kernel_rfl) (by kernel_rfl) (Eq.trans (by kernel_rfl) e128) (k := 2) (by kernel_rfl) (fun _ => (by kernel_rfl)) (by decide) ?_
                replace hF := callN_some hF; obtain ⟨r80, h_129, e130, hF⟩ := hF
                refine WD.dyn (d := (some 80)) (by kernel_rfl) (by kernel_rfl) (by kernel_rfl) e130 (k := 2) (by kernel_rfl) (fun _ => (by kernel_rfl)) (by decide) ?_
                refine WD.nil ?_
                refine Go.weaken (l' := [(5, (newP h_7)), (6, (AV.fn 20 [] [(newP h_7)])), (65, v65), (66, .int .i64 t66), (67, .int .i64 t67)]) (Fr.c (Fr.c (Fr.c (Fr.c (Fr.c Fr.n))))) ?_
                refine n107 ?_
                refine n106 ?_
                refine W.r ?_
                replace hF := lett_some hF; obtain ⟨t81, e131, hF⟩ := hF
                refine WL.val (d := (some 81)) (v := .int .i64 t81) (h' := h_129) (by kernel_rfl) (by kernel_rfl) (val_of (AV.int .i64) e131 (by kernel_rfl)) ?_
                refine WL.a (some 67) (.int .i64 t81) h_129 ?_
                refine WL.n ?_
                refine Go.weaken (l' := [(5, (newP h_7)), (6, (AV.fn 20 [] [(newP h_7)])), (65, v65), (66, .int .i64 t66), (67, .int .i64 t81)]) (Fr.c (Fr.c (Fr.c (Fr.c (Fr.c Fr.n))))) ?_
                refine n101 ?_
                exact Go.weaken (Fr.c (Fr.c (Fr.c (Fr.c (Fr.c Fr.n))))) (ih101 _ _ hF)
              | false =>
                replace hF := ifB_f hF
                refine W.f ?_
                refine W.exit (by kernel_rfl) ?_
                refine e105 ?_
                refine e101 ?_
                refine s94 (by kernel_rfl) ?_
                exact Go.weaken (Fr.c Fr.n) (J95 _ hF)
          exact Go.weaken (Fr.c (Fr.c (Fr.c (Fr.c (Fr.c Fr.n))))) (L101 _ _ _ hF)
        · refine WL.call (hc.ok w0) (d := (some 63)) (by kernel_rfl) (by kernel_rfl) (Eq.trans (by kernel_rfl) d1321) d1322 ?_
          refine WL.n ?_
          refine Go.weaken (l' := [(1, v1), (5, (newP h_7)), (6, (AV.fn 20 [] [(newP h_7)]))]) (Fr.c (Fr.c (Fr.c Fr.n))) ?_
          refine n77 ?_
          refine W.s (fun K89 n89 e89 q89 p89 => ?_)
          refine W.s (fun K90 n90 e90 q90 p90 => ?_)
          refine W.r ?_
          replace hF := obind_some hF; obtain ⟨t64, e91, hF⟩ := hF
          refine WL.b (some 64) t64 h_87 (field_ptr (P := Try.prog) (h := h_87) (s := 30) (f := 9) (by kernel_rfl) e91) ?_
          replace hF := obind_some hF; obtain ⟨v65, e92, hF⟩ := hF
          refine WL.b (some 65) v65 h_87 (load_cell (P := Try.prog) (h := h_87) (t := 26) (by kernel_rfl) e92) ?_
          replace hF := obind_some hF; obtain ⟨t66, e93, hF⟩ := hF
          refine WL.b (some 66) (.int .i64 t66) h_87 (len_row (P := Try.prog) (h := h_87) (t := 26) (e' := 42) (by kernel_rfl) e93) ?_
          refine WL.a (some 67) (.int .i64 0) h_87 ?_
          refine WL.n ?_
          refine Go.weaken (l' := [(5, (newP h_7)), (6, (AV.fn 20 [] [(newP h_7)])), (65, v65), (66, .int .i64 t66), (67, .int .i64 0)]) (Fr.c (Fr.c (Fr.c (Fr.c (Fr.c Fr.n))))) ?_
          refine n90 ?_
          replace hF := lett_some hF; obtain ⟨k95, e95, hF⟩ := hF
          have J95 : ∀  (h_96 : AHeap), k95 h_96 = some (rR, hR) → Go w0 m0 (Func.ntmps Try.f9) (K89 .normal) [(5, (newP h_7))] [] h_96 := by
            intro  h_96 hF
            rw [e95] at hF
            refine n89 ?_
            refine W.s (fun K97 n97 e97 q97 p97 => ?_)
            refine W.r ?_
            replace hF := callN_some hF; obtain ⟨r82, h_98, e99, hF⟩ := hF
            replace hF := obind_some hF; obtain ⟨t82, c100, hF⟩ := hF
            have c100 := avStr_some c100
            subst c100
            refine WL.c (hc.ok w0) (some 82) e99 ?_
            refine WL.a (some 2) (strA t82) h_98 ?_
            refine WL.a (some 3) (.int .i64 0) h_98 ?_
            refine WL.n ?_
            refine Go.weaken (l' := [(2, strA t82), (3, .int .i64 0)]) (Fr.c (Fr.c Fr.n)) ?_
            refine n97 ?_
            refine W.ret (by kernel_rfl) ?_
            obtain ⟨hF, hF2⟩ := ret_inj hF; subst hF; subst hF2
            exact leave_of (rs := [.tmp 2, .tmp 3]) (vs := [strA t82, .int .i64 0]) (by kernel_rfl) (res_tmp (by kernel_rfl) (res_tmp (by kernel_rfl) res_nil)) (by kernel_rfl)
          refine W.blockK (by kernel_rfl) (fun K94 n94 s94 o94 q94 p94 => ?_)
          refine W.loopK (by kernel_rfl) (fun I101 K101 b101 n101 e101 q101 p101 => ?_)
          have L101 : ∀ (m : Nat) (t67 : Int) (h_102 : AHeap), message_Encode_L0 call h_7 v65 t66 k95 m t67 h_102 = some (rR, hR) → Go w0 m0 (Func.ntmps Try.f9) I101 [(5, (newP h_7)), (6, (AV.fn 20 [] [(newP h_7)])), (65, v65), (66, .int .i64 t66), (67, .int .i64 t67)] [] h_102 := by
            intro m
            induction m with
            | zero => intro t67 h_102 hF; cases hF
            | succ m ih101 =>
              intro t67 h_102 hF
              rw [message_Encode_L0_s] at hF; unfold message_Encode_L0b at hF
              refine b101 ?_
              refine W.s (fun K103 n103 e103 q103 p103 => ?_)
              refine W.r ?_
              replace hF := lett_some hF; obtain ⟨t68, e104, hF⟩ := hF
              refine WL.val (d := (some 68)) (v := .bool t68) (h' := h_102) (by kernel_rfl) (by kernel_rfl) (val_of AV.bool e104 (by kernel_rfl)) ?_
              refine WL.n ?_
              refine Go.weaken (l' := [(5, (newP h_7)), (6, (AV.fn 20 [] [(newP h_7)])), (65, v65), (66, .int .i64 t66), (67, .int .i64 t67), (68, .bool t68)]) (Fr.c (Fr.c (Fr.c (Fr.c (Fr.c (Fr.c Fr.n)))))) ?_
              refine n103 ?_
              refine W.s (fun K105 n105 e105 q105 p105 => ?_)
              cases t68 with
              | true =>
                replace hF := ifB_t hF
                refine W.t ?_
                refine W.skip (by kernel_rfl) ?_
                refine n105 ?_
                refine W.s (fun K106 n106 e106 q106 p106 => ?_)
                refine W.blockK (by kernel_rfl) (fun K107 n107 s107 o107 q107 p107 => ?_)
                refine W.s (fun K108 n108 e108 q108 p108 => ?_)
                refine W.r ?_
                replace hF := obind_some hF; obtain ⟨t69, e109, hF⟩ := hF
                refine WL.b (some 69) t69 h_102 (index_row (P := Try.prog) (h := h_102) (t := 26) (e' := 42) (k := .i64) (by kernel_rfl) (by kernel_rfl) (by kernel_rfl) e109) ?_
                replace hF := obind_some hF; obtain ⟨t70, e110, hF⟩ := hF
                refine WL.b (some 70) (.agg t70) h_102 (load_row (P := Try.prog) (h := h_102) (t := 42) (by kernel_rfl) (by kernel_rfl) e110) ?_
                replace hF := lett_some hF; obtain ⟨h_111, e112, hF⟩ := hF
                refine WL.val (d := (some 10)) (v := (newP h_102)) (h' := h_111) (by kernel_rfl) (by kernel_rfl) (val_ofH e112 (by kernel_rfl)) ?_
                replace hF := obind_some hF; obtain ⟨h_113, e114, hF⟩ := hF
                refine WL.e h_113 (store_row (P := Try.prog) (h := h_111) (t := 42) (v := (.agg t70)) (by kernel_rfl) (by kernel_rfl) e114) ?_
                refine WL.n ?_
                refine Go.weaken (l' := [(5, (newP h_7)), (6, (AV.fn 20 [] [(newP h_7)])), (10, (newP h_102)), (65, v65), (66, .int .i64 t66), (67, .int .i64 t67)]) (Fr.c (Fr.c (Fr.c (Fr.c (Fr.c (Fr.c Fr.n)))))) ?_
                refine n108 ?_
                refine W.draw (by kernel_rfl) (hc.ok w0) (plan := [0, 1, 2, 3, 5, 6, 4, 7, 8, 9]) (by kernel_rfl) (by kernel_rfl) (by kernel_rfl) ?_
                refine WD.a 0 (some 71) (AV.fn 20 [] [(newP h_7)]) h_113 ?_
                refine WD.a 0 (some 72) (AV.ptr (AHeap.next h_102) 0) h_113 ?_
                replace hF := obind_some hF; obtain ⟨v73, e115, hF⟩ := hF
                replace hF := obind_some hF; obtain ⟨t73, c116, hF⟩ := hF
                have c116 := avInt_some c116
                subst c116
                refine WD.b 1 (some 73) (.int .i64 t73) h_113 (load_cell (P := Try.prog) (h := h_113) (t := 3) (by kernel_rfl) e115) ?_
                replace hF := lett_some hF; obtain ⟨t74, e117, hF⟩ := hF
                refine WD.val (d := (some 74)) (v := .int .u64 t74) (h' := h_113) (by kernel_rfl) (by kernel_rfl) (val_of (AV.int .u64) e117 (by kernel_rfl)) (k := 0) (by kernel_rfl) (fun e => absurd e (by decide)) (by decide) ?_
                refine WD.a 0 (some 76) (AV.ptr (AHeap.next h_102) 1) h_113 ?_
                replace hF := obind_some hF; obtain ⟨v77, e118, hF⟩ := hF
                replace hF := obind_some hF; obtain ⟨t77, c119, hF⟩ := hF
                have c119 := avStr_some c119
                subst c119
                refine WD.b 1 (some 77) (strA t77) h_113 (load_cell (P := Try.prog) (h := h_113) (t := 9) (by kernel_rfl) e118) ?_
                replace hF := callN_some hF; obtain ⟨r75, h_120, e121, hF⟩ := hF
                replace hF := obind_some hF; obtain ⟨t75, c122, hF⟩ := hF
                have c122 := avStr_some c122
                subst c122
                replace hF := chk_some hF; obtain ⟨k123, hF⟩ := hF
                refine WD.call (d := (some 75)) (by kernel_rfl) (by kernel_rfl) (by kernel_rfl) e121 (k := 2) (by kernel_rfl) (fun _ => (Eq.trans (by kernel_rfl) k123)) (by decide) ?_
                replace hF := callN_some hF; obtain ⟨r78, h_124, e125, hF⟩ := hF
                replace hF := obind_some hF; obtain ⟨t78, c126, hF⟩ := hF
                have c126 := avStr_some c126
                subst c126
                refine WD.call (d := (some 78)) (by kernel_rfl) (by kernel_rfl) (by kernel_rfl) e125 (k := 2) (by kernel_rfl) (fun _ => (by kernel_rfl)) (by decide) ?_
                replace hF := outK_some hF; obtain ⟨v79, h_127, e128, hF⟩ := hF
                refine WD.val (d := (some 79)) (v := v79) (h' := h_127) (by kernel_rfl) (by kernel_rfl) (Eq.trans (by kernel_rfl) e128) (k := 2) (by kernel_rfl) (fun _ => (by kernel_rfl)) (by decide) ?_
                replace hF := callN_some hF; obtain ⟨r80, h_129, e130, hF⟩ := hF
                refine WD.dyn (d := (some 80)) (by kernel_rfl) (by kernel_rfl) (by kernel_rfl) e130 (k := 2) (by kernel_rfl) (fun _ => (by kernel_rfl)) (by decide) ?_
                refine WD.nil ?_
                refine Go.weaken (l' := [(5, (newP h_7)), (6, (AV.fn 20 [] [(newP h_7)])), (65, v65), (66, .int .i64 t66), (67, .int .i64 t67)]) (Fr.c (Fr.c (Fr.c (Fr.c (Fr.c Fr.n))))) ?_
                refine n107 ?_
                refine n106 ?_
                refine W.r ?_
                replace hF := lett_some hF; obtain ⟨t81, e131, hF⟩ := hF
                refine WL.val (d := (some 81)) (v := .int .i64 t81) (h' := h_129) (by kernel_rfl) (by kernel_rfl) (val_of (AV.int .i64) e131 (by kernel_rfl)) ?_
                refine WL.a (some 67) (.int .i64 t81) h_129 ?_
                refine WL.n ?_
                refine Go.weaken (l' := [(5, (newP h_7)), (6, (AV.fn 20 [] [(newP h_7)])), (65, v65), (66, .int .i64 t66), (67, .int .i64 t81)]) (Fr.c (Fr.c (Fr.c (Fr.c (Fr.c Fr.n))))) ?_
                refine n101 ?_
                exact Go.weaken (Fr.c (Fr.c (Fr.c (Fr.c (Fr.c Fr.n))))) (ih101 _ _ hF)
              | false =>
                replace hF := ifB_f hF
                refine W.f ?_
                refine W.exit (by kernel_rfl) ?_
                refine e105 ?_
                refine e101 ?_
                refine s94 (by kernel_rfl) ?_
                exact Go.weaken (Fr.c Fr.n) (J95 _ hF)
          exact Go.weaken (Fr.c (Fr.c (Fr.c (Fr.c (Fr.c Fr.n))))) (L101 _ _ _ hF)
      refine W.blockK (by kernel_rfl) (fun K33 n33 s33 o33 q33 p33 => ?_)
      refine W.loopK (by kernel_rfl) (fun I133 K133 b133 n133 e133 q133 p133 => ?_)
      have L133 : ∀ (m : Nat) (t24 : Int) (h_134 : AHeap), message_Encode_L1 call h_7 t23 k34 m t24 h_134 = some (rR, hR) → Go w0 m0 (Func.ntmps Try.f9) I133 [(1, v1), (5, (newP h_7)), (6, (AV.fn 20 [] [(newP h_7)])), (23, .agg t23), (24, .int .i64 t24)] [] h_134 := by
        intro m
        induction m with
        | zero => intro t24 h_134 hF; cases hF
        | succ m ih133 =>
          intro t24 h_134 hF
          rw [message_Encode_L1_s] at hF; unfold message_Encode_L1b at hF
          refine b133 ?_
          refine W.s (fun K135 n135 e135 q135 p135 => ?_)
          refine W.r ?_
          replace hF := lett_some hF; obtain ⟨t25, e136, hF⟩ := hF
          refine WL.val (d := (some 25)) (v := .bool t25) (h' := h_134) (by kernel_rfl) (by kernel_rfl) (val_of AV.bool e136 (by kernel_rfl)) ?_
          refine WL.n ?_
          refine Go.weaken (l' := [(1, v1), (5, (newP h_7)), (6, (AV.fn 20 [] [(newP h_7)])), (23, .agg t23), (24, .int .i64 t24), (25, .bool t25)]) (Fr.c (Fr.c (Fr.c (Fr.c (Fr.c (Fr.c Fr.n)))))) ?_
          refine n135 ?_
          refine W.s (fun K137 n137 e137 q137 p137 => ?_)
          cases t25 with
          | true =>
            replace hF := ifB_t hF
            refine W.t ?_
            refine W.skip (by kernel_rfl) ?_
            refine n137 ?_
            refine W.s (fun K138 n138 e138 q138 p138 => ?_)
            refine W.blockK (by kernel_rfl) (fun K139 n139 s139 o139 q139 p139 => ?_)
            refine W.s (fun K140 n140 e140 q140 p140 => ?_)
            refine W.r ?_
            replace hF := outK_some hF; obtain ⟨v26, h_141, e142, hF⟩ := hF
            refine WL.b (some 26) v26 h_141 e142 ?_
            refine WL.a (some 8) v26 h_141 ?_
            refine WL.n ?_
            refine Go.weaken (l' := [(1, v1), (5, (newP h_7)), (6, (AV.fn 20 [] [(newP h_7)])), (8, v26), (23, .agg t23), (24, .int .i64 t24)]) (Fr.c (Fr.c (Fr.c (Fr.c (Fr.c (Fr.c Fr.n)))))) ?_
            refine n140 ?_
            refine W.r ?_
            refine WL.a (some 27) (AV.fn 20 [] [(newP h_7)]) h_141 ?_
            refine WL.a (some 28) v26 h_141 ?_
            replace hF := obind_some hF; obtain ⟨t29, e143, hF⟩ := hF
            refine WL.b (some 29) t29 h_141 (nil_chk (h := h_141) e143) ?_
            replace hF := obind_some hF; obtain ⟨v30, e144, hF⟩ := hF
            replace hF := obind_some hF; obtain ⟨t30, c145, hF⟩ := hF
            have c145 := avInt_some c145
            subst c145
            refine WL.b (some 30) (.int .i64 t30) h_141 (load_cell (P := Try.prog) (h := h_141) (t := 3) (by kernel_rfl) e144) ?_
            replace hF := lett_some hF; obtain ⟨t31, e146, hF⟩ := hF
            refine WL.val (d := (some 31)) (v := .int .u64 t31) (h' := h_141) (by kernel_rfl) (by kernel_rfl) (val_of (AV.int .u64) e146 (by kernel_rfl)) ?_
            replace hF := callN_some hF; obtain ⟨r32, h_147, e148, hF⟩ := hF
            replace hF := obind_some hF; obtain ⟨t32, c149, hF⟩ := hF
            have c149 := avStr_some c149
            subst c149
            refine WL.c (hc.ok w0) (some 32) e148 ?_
            replace hF := outK_some hF; obtain ⟨v33, h_150, e151, hF⟩ := hF
            refine WL.b (some 33) v33 h_150 e151 ?_
            replace hF := callN_some hF; obtain ⟨r34, h_152, e153, hF⟩ := hF
            rcases dynC_some e153 with ⟨d155g, d155as, d155h, d1551, d1552⟩ | ⟨d155v, d155h, d1551, d1552⟩
            rotate_left
            · cases d1552
              refine WL.val (d := (some 34)) (by kernel_rfl) (by kernel_rfl) (Eq.trans (by kernel_rfl) d1551) ?_
              refine WL.n ?_
              refine Go.weaken (l' := [(1, v1), (5, (newP h_7)), (6, (AV.fn 20 [] [(newP h_7)])), (23, .agg t23), (24, .int .i64 t24)]) (Fr.c (Fr.c (Fr.c (Fr.c (Fr.c Fr.n))))) ?_
              refine n139 ?_
              refine n138 ?_
              refine W.r ?_
              replace hF := lett_some hF; obtain ⟨t35, e154, hF⟩ := hF
              refine WL.val (d := (some 35)) (v := .int .i64 t35) (h' := h_152) (by kernel_rfl) (by kernel_rfl) (val_of (AV.int .i64) e154 (by kernel_rfl)) ?_
              refine WL.a (some 24) (.int .i64 t35) h_152 ?_
              refine WL.n ?_
              refine Go.weaken (l' := [(1, v1), (5, (newP h_7)), (6, (AV.fn 20 [] [(newP h_7)])), (23, .agg t23), (24, .int .i64 t35)]) (Fr.c (Fr.c (Fr.c (Fr.c (Fr.c Fr.n))))) ?_
              refine n133 ?_
              exact Go.weaken (Fr.c (Fr.c (Fr.c (Fr.c (Fr.c Fr.n))))) (ih133 _ _ hF)
            · refine WL.call (hc.ok w0) (d := (some 34)) (by kernel_rfl) (by kernel_rfl) (Eq.trans (by kernel_rfl) d1551) d1552 ?_
              refine WL.n ?_
              refine Go.weaken (l' := [(1, v1), (5, (newP h_7)), (6, (AV.fn 20 [] [(newP h_7)])), (23, .agg t23), (24, .int .i64 t24)]) (Fr.c (Fr.c (Fr.c (Fr.c (Fr.c Fr.n))))) ?_
              refine n139 ?_
              refine n138 ?_
              refine W.r ?_
              replace hF := lett_some hF; obtain ⟨t35, e154, hF⟩ := hF
              refine WL.val (d := (some 35)) (v := .int .i64 t35) (h' := h_152) (by kernel_rfl) (by kernel_rfl) (val_of (AV.int .i64) e154 (by kernel_rfl)) ?_
              refine WL.a (some 24) (.int .i64 t35) h_152 ?_
              refine WL.n ?_
              refine Go.weaken (l' := [(1, v1), (5, (newP h_7)), (6, (AV.fn 20 [] [(newP h_7)])), (23, .agg t23), (24, .int .i64 t35)]) (Fr.c (Fr.c (Fr.c (Fr.c (Fr.c Fr.n))))) ?_
              refine n133 ?_
              exact Go.weaken (Fr.c (Fr.c (Fr.c (Fr.c (Fr.c Fr.n))))) (ih133 _ _ hF)
          | false =>
            replace hF := ifB_f hF
            refine W.f ?_
            refine W.exit (by kernel_rfl) ?_
            refine e137 ?_
            refine e133 ?_
            refine s33 (by kernel_rfl) ?_
            exact Go.weaken (Fr.c (Fr.c (Fr.c Fr.n))) (J34 _ hF)
      exact Go.weaken (Fr.c (Fr.c (Fr.c (Fr.c (Fr.c Fr.n))))) (L133 _ _ _ hF)
    · refine WL.call (hc.ok w0) (d := (some 22)) (by kernel_rfl) (by kernel_rfl) (Eq.trans (by kernel_rfl) d1561) d1562 ?_
      refine WL.n ?_
      refine Go.weaken (l' := [(1, v1), (5, (newP h_7)), (6, (AV.fn 20 [] [(newP h_7)]))]) (Fr.c (Fr.c (Fr.c Fr.n))) ?_
      refine n17 ?_
      refine W.s (fun K28 n28 e28 q28 p28 => ?_)
      refine W.s (fun K29 n29 e29 q29 p29 => ?_)
      refine W.r ?_
      replace hF := callN_some hF; obtain ⟨r23, h_30, e31, hF⟩ := hF
      replace hF := obind_some hF; obtain ⟨t23, c32, hF⟩ := hF
      have c32 := avAgg_some c32
      subst c32
      refine WL.c (hc.ok w0) (some 23) e31 ?_
      refine WL.a (some 24) (.int .i64 0) h_30 ?_
      refine WL.n ?_
      refine Go.weaken (l' := [(1, v1), (5, (newP h_7)), (6, (AV.fn 20 [] [(newP h_7)])), (23, .agg t23), (24, .int .i64 0)]) (Fr.c (Fr.c (Fr.c (Fr.c (Fr.c Fr.n))))) ?_
      refine n29 ?_
      replace hF := lett_some hF; obtain ⟨k34, e34, hF⟩ := hF
      have J34 : ∀  (h_35 : AHeap), k34 h_35 = some (rR, hR) → Go w0 m0 (Func.ntmps Try.f9) (K28 .normal) [(1, v1), (5, (newP h_7)), (6, (AV.fn 20 [] [(newP h_7)]))] [] h_35 := by
        intro  h_35 hF
        rw [e34] at hF
        refine n28 ?_
        refine W.s (fun K36 n36 e36 q36 p36 => ?_)
        refine W.draw (by kernel_rfl) (hc.ok w0) (plan := [0, 1, 2, 4, 5, 7, 8, 9, 11, 12, 13, 15, 16, 3, 6, 10, 14, 17, 18, 19]) (by kernel_rfl) (by kernel_rfl) (by kernel_rfl) ?_
        refine WD.a 0 (some 36) (AV.fn 20 [] [(newP h_7)]) h_35 ?_
        replace hF := obind_some hF; obtain ⟨t37, e37, hF⟩ := hF
        refine WD.b 0 (some 37) t37 h_35 (field_ptr (P := Try.prog) (h := h_35) (s := 30) (f := 8) (by kernel_rfl) e37) ?_
        replace hF := obind_some hF; obtain ⟨v38, e38, hF⟩ := hF
        replace hF := obind_some hF; obtain ⟨t38, c39, hF⟩ := hF
        have c39 := avBool_some c39
        subst c39
        refine WD.b 1 (some 38) (.bool t38) h_35 (load_cell (P := Try.prog) (h := h_35) (t := 4) (by kernel_rfl) e38) ?_
        replace hF := obind_some hF; obtain ⟨t40, e40, hF⟩ := hF
        refine WD.b 0 (some 40) t40 h_35 (field_ptr (P := Try.prog) (h := h_35) (s := 30) (f := 18) (by kernel_rfl) e40) ?_
        replace hF := obind_some hF; obtain ⟨v41, e41, hF⟩ := hF
        replace hF := obind_some hF; obtain ⟨t41, c42, hF⟩ := hF
        have c42 := avInt_some c42
        subst c42
        refine WD.b 1 (some 41) (.int .u8 t41) h_35 (load_cell (P := Try.prog) (h := h_35) (t := 5) (by kernel_rfl) e41) ?_
        replace hF := obind_some hF; obtain ⟨t43, e43, hF⟩ := hF
        refine WD.b 0 (some 43) t43 h_35 (field_ptr (P := Try.prog) (h := h_35) (s := 30) (f := 19) (by kernel_rfl) e43) ?_
        replace hF := obind_some hF; obtain ⟨v44, e44, hF⟩ := hF
        replace hF := obind_some hF; obtain ⟨t44, c45, hF⟩ := hF
        have c45 := avInt_some c45
        subst c45
        refine WD.b 1 (some 44) (.int .i64 t44) h_35 (load_cell (P := Try.prog) (h := h_35) (t := 23) (by kernel_rfl) e44) ?_
        replace hF := lett_some hF; obtain ⟨t45, e46, hF⟩ := hF
        refine WD.val (d := (some 45)) (v := .int .u32 t45) (h' := h_35) (by kernel_rfl) (by kernel_rfl) (val_of (AV.int .u32) e46 (by kernel_rfl)) (k := 0) (by kernel_rfl) (fun e => absurd e (by decide)) (by decide) ?_
        replace hF := obind_some hF; obtain ⟨t47, e47, hF⟩ := hF
        refine WD.b 0 (some 47) t47 h_35 (field_ptr (P := Try.prog) (h := h_35) (s := 30) (f := 20) (by kernel_rfl) e47) ?_
        replace hF := obind_some hF; obtain ⟨v48, e48, hF⟩ := hF
        replace hF := obind_some hF; obtain ⟨t48, c49, hF⟩ := hF
        have c49 := avInt_some c49
        subst c49
        refine WD.b 1 (some 48) (.int .i64 t48) h_35 (load_cell (P := Try.prog) (h := h_35) (t := 3) (by kernel_rfl) e48) ?_
        replace hF := lett_some hF; obtain ⟨t49, e50, hF⟩ := hF
        refine WD.val (d := (some 49)) (v := .int .u8 t49) (h' := h_35) (by kernel_rfl) (by kernel_rfl) (val_of (AV.int .u8) e50 (by kernel_rfl)) (k := 0) (by kernel_rfl) (fun e => absurd e (by decide)) (by decide) ?_
        replace hF := obind_some hF; obtain ⟨t51, e51, hF⟩ := hF
        refine WD.b 0 (some 51) t51 h_35 (field_ptr (P := Try.prog) (h := h_35) (s := 30) (f := 12) (by kernel_rfl) e51) ?_
        replace hF := obind_some hF; obtain ⟨v52, e52, hF⟩ := hF
        replace hF := obind_some hF; obtain ⟨t52, c53, hF⟩ := hF
        have c53 := avStr_some c53
        subst c53
        refine WD.b 1 (some 52) (strA t52) h_35 (load_cell (P := Try.prog) (h := h_35) (t := 9) (by kernel_rfl) e52) ?_
        replace hF := callN_some hF; obtain ⟨r39, h_54, e55, hF⟩ := hF
        replace hF := obind_some hF; obtain ⟨t39, c56, hF⟩ := hF
        have c56 := avStr_some c56
        subst c56
        replace hF := chk_some hF; obtain ⟨k57, hF⟩ := hF
        refine WD.call (d := (some 39)) (by kernel_rfl) (by kernel_rfl) (by kernel_rfl) e55 (k := 2) (by kernel_rfl) (fun _ => (Eq.trans (by kernel_rfl) k57)) (by decide) ?_
        replace hF := callN_some hF; obtain ⟨r42, h_58, e59, hF⟩ := hF
        replace hF := obind_some hF; obtain ⟨t42, c60, hF⟩ := hF
        have c60 := avStr_some c60
        subst c60
        replace hF := chk_some hF; obtain ⟨k61, hF⟩ := hF
        refine WD.call (d := (some 42)) (by kernel_rfl) (by kernel_rfl) (by kernel_rfl) e59 (k := 2) (by kernel_rfl) (fun _ => (Eq.trans (by kernel_rfl) k61)) (by decide) ?_
        replace hF := callN_some hF; obtain ⟨r46, h_62, e63, hF⟩ := hF
        replace hF := obind_some hF; obtain ⟨t46, c64, hF⟩ := hF
        have c64 := avStr_some c64
        subst c64
        replace hF := chk_some hF; obtain ⟨k65, hF⟩ := hF
        refine WD.call (d := (some 46)) (by kernel_rfl) (by kernel_rfl) (by kernel_rfl) e63 (k := 2) (by kernel_rfl) (fun _ => (Eq.trans (by kernel_rfl) k65)) (by decide) ?_
        replace hF := callN_some hF; obtain ⟨r50, h_66, e67, hF⟩ := hF
        replace hF := obind_some hF; obtain ⟨t50, c68, hF⟩ := hF
        have c68 := avStr_some c68
        subst c68
        replace hF := chk_some hF; obtain ⟨k69, hF⟩ := hF
        refine WD.call (d := (some 50)) (by kernel_rfl) (by kernel_rfl) (by kernel_rfl) e67 (k := 2) (by kernel_rfl) (fun _ => (Eq.trans (by kernel_rfl) k69)) (by decide) ?_
        replace hF := callN_some hF; obtain ⟨r53, h_70, e71, hF⟩ := hF
        replace hF := obind_some hF; obtain ⟨t53, c72, hF⟩ := hF
        have c72 := avStr_some c72
        subst c72
        refine WD.call (d := (some 53)) (by kernel_rfl) (by kernel_rfl) (by kernel_rfl) e71 (k := 2) (by kernel_rfl) (fun _ => (by kernel_rfl)) (by decide) ?_
        replace hF := outK_some hF; obtain ⟨v54, h_73, e74, hF⟩ := hF
        refine WD.val (d := (some 54)) (v := v54) (h' := h_73) (by kernel_rfl) (by kernel_rfl) (Eq.trans (by kernel_rfl) e74) (k := 2) (by kernel_rfl) (fun _ => (by kernel_rfl)) (by decide) ?_
        replace hF := callN_some hF; obtain ⟨r55, h_75, e76, hF⟩ := hF
        refine WD.dyn (d := (some 55)) (by kernel_rfl) (by kernel_rfl) (by kernel_rfl) e76 (k := 2) (by kernel_rfl) (fun _ => (by kernel_rfl)) (by decide) ?_
        refine WD.nil ?_
        refine Go.weaken (l' := [(1, v1), (5, (newP h_7)), (6, (AV.fn 20 [] [(newP h_7)]))]) (Fr.c (Fr.c (Fr.c Fr.n))) ?_
        refine n36 ?_
        refine W.s (fun K77 n77 e77 q77 p77 => ?_)
        refine W.r ?_
        refine WL.a (some 56) (AV.fn 20 [] [(newP h_7)]) h_75 ?_
        replace hF := obind_some hF; obtain ⟨t57, e78, hF⟩ := hF
        refine WL.b (some 57) t57 h_75 (field_ptr (P := Try.prog) (h := h_75) (s := 30) (f := 9) (by kernel_rfl) e78) ?_
        replace hF := obind_some hF; obtain ⟨v58, e79, hF⟩ := hF
        refine WL.b (some 58) v58 h_75 (load_cell (P := Try.prog) (h := h_75) (t := 26) (by kernel_rfl) e79) ?_
        replace hF := obind_some hF; obtain ⟨t59, e80, hF⟩ := hF
        refine WL.b (some 59) (.int .i64 t59) h_75 (len_row (P := Try.prog) (h := h_75) (t := 26) (e' := 42) (by kernel_rfl) e80) ?_
        replace hF := lett_some hF; obtain ⟨t60, e81, hF⟩ := hF
        refine WL.val (d := (some 60)) (v := .int .u8 t60) (h' := h_75) (by kernel_rfl) (by kernel_rfl) (val_of (AV.int .u8) e81 (by kernel_rfl)) ?_
        replace hF := callN_some hF; obtain ⟨r61, h_82, e83, hF⟩ := hF
        replace hF := obind_some hF; obtain ⟨t61, c84, hF⟩ := hF
        have c84 := avStr_some c84
        subst c84
        refine WL.c (hc.ok w0) (some 61) e83 ?_
        replace hF := outK_some hF; obtain ⟨v62, h_85, e86, hF⟩ := hF
        refine WL.b (some 62) v62 h_85 e86 ?_
        replace hF := callN_some hF; obtain ⟨r63, h_87, e88, hF⟩ := hF
        rcases dynC_some e88 with ⟨d132g, d132as, d132h, d1321, d1322⟩ | ⟨d132v, d132h, d1321, d1322⟩
        rotate_left
        · cases d1322
          refine WL.val (d := (some 63)) (by kernel_rfl) (by kernel_rfl) (Eq.trans (by kernel_rfl) d1321) ?_
          refine WL.n ?_
          refine Go.weaken (l' := [(1, v1), (5, (newP h_7)), (6, (AV.fn 20 [] [(newP h_7)]))]) (Fr.c (Fr.c (Fr.c Fr.n))) ?_
          refine n77 ?_
          refine W.s (fun K89 n89 e89 q89 p89 => ?_)
          refine W.s (fun K90 n90 e90 q90 p90 => ?_)
          refine W.r ?_
          replace hF := obind_some hF; obtain ⟨t64, e91, hF⟩ := hF
          refine WL.b (some 64) t64 h_87 (field_ptr (P := Try.prog) (h := h_87) (s := 30) (f := 9) (by kernel_rfl) e91) ?_
          replace hF := obind_some hF; obtain ⟨v65, e92, hF⟩ := hF
          refine WL.b (some 65) v65 h_87 (load_cell (P := Try.prog) (h := h_87) (t := 26) (by kernel_rfl) e92) ?_
          replace hF := obind_some hF; obtain ⟨t66, e93, hF⟩ := hF
          refine WL.b (some 66) (.int .i64 t66) h_87 (len_row (P := Try.prog) (h := h_87) (t := 26) (e' := 42) (by kernel_rfl) e93) ?_
          refine WL.a (some 67) (.int .i64 0) h_87 ?_
          refine WL.n ?_
          refine Go.weaken (l' := [(5, (newP h_7)), (6, (AV.fn 20 [] [(newP h_7)])), (65, v65), (66, .int .i64 t66), (67, .int .i64 0)]) (Fr.c (Fr.c (Fr.c (Fr.c (Fr.c Fr.n))))) ?_
          refine n90 ?_
          replace hF := lett_some hF; obtain ⟨k95, e95, hF⟩ := hF
          have J95 : ∀  (h_96 : AHeap), k95 h_96 = some (rR, hR) → Go w0 m0 (Func.ntmps Try.f9) (K89 .normal) [(5, (newP h_7))] [] h_96 := by
            intro  h_96 hF
            rw [e95] at hF
            refine n89 ?_
            refine W.s (fun K97 n97 e97 q97 p97 => ?_)
            refine W.r ?_
            replace hF := callN_some hF; obtain ⟨r82, h_98, e99, hF⟩ := hF
            replace hF := obind_some hF; obtain ⟨t82, c100, hF⟩ := hF
            have c100 := avStr_some c100
            subst c100
            refine WL.c (hc.ok w0) (some 82) e99 ?_
            refine WL.a (some 2) (strA t82) h_98 ?_
            refine WL.a (some 3) (.int .i64 0) h_98 ?_
            refine WL.n ?_
            refine Go.weaken (l' := [(2, strA t82), (3, .int .i64 0)]) (Fr.c (Fr.c Fr.n)) ?_
            refine n97 ?_
            refine W.ret (by kernel_rfl) ?_
            obtain ⟨hF, hF2⟩ := ret_inj hF; subst hF; subst hF2
            exact leave_of (rs := [.tmp 2, .tmp 3]) (vs := [strA t82, .int .i64 0]) (by kernel_rfl) (res_tmp (by kernel_rfl) (res_tmp (by kernel_rfl) res_nil)) (by kernel_rfl)
          refine W.blockK (by kernel_rfl) (fun K94 n94 s94 o94 q94 p94 => ?_)
          refine W.loopK (by kernel_rfl) (fun I101 K101 b101 n101 e101 q101 p101 => ?_)
          have L101 : ∀ (m : Nat) (t67 : Int) (h_102 : AHeap), message_Encode_L0 call h_7 v65 t66 k95 m t67 h_102 = some (rR, hR) → Go w0 m0 (Func.ntmps Try.f9) I101 [(5, (newP h_7)), (6, (AV.fn 20 [] [(newP h_7)])), (65, v65), (66, .int .i64 t66), (67, .int .i64 t67)] [] h_102 := by
            intro m
            induction m with
            | zero => intro t67 h_102 hF; cases hF
            | succ m ih101 =>
              intro t67 h_102 hF
              rw [message_Encode_L0_s] at hF; unfold message_Encode_L0b at hF
              refine b101 ?_
              refine W.s (fun K103 n103 e103 q103 p103 => ?_)
              refine W.r ?_
              replace hF := lett_some hF; obtain ⟨t68, e104, hF⟩ := hF
              refine WL.val (d := (some 68)) (v := .bool t68) (h' := h_102) (by kernel_rfl) (by kernel_rfl) (val_of AV.bool e104 (by kernel_rfl)) ?_
              refine WL.n ?_
              refine Go.weaken (l' := [(5, (newP h_7)), (6, (AV.fn 20 [] [(newP h_7)])), (65, v65), (66, .int .i64 t66), (67, .int .i64 t67), (68, .bool t68)]) (Fr.c (Fr.c (Fr.c (Fr.c (Fr.c (Fr.c Fr.n)))))) ?_
              refine n103 ?_
              refine W.s (fun K105 n105 e105 q105 p105 => ?_)
              cases t68 with
              | true =>
                replace hF := ifB_t hF
                refine W.t ?_
                refine W.skip (by kernel_rfl) ?_
                refine n105 ?_
                refine W.s (fun K106 n106 e106 q106 p106 => ?_)
                refine W.blockK (by kernel_rfl) (fun K107 n107 s107 o107 q107 p107 => ?_)
                refine W.s (fun K108 n108 e108 q108 p108 => ?_)
                refine W.r ?_
                replace hF := obind_some hF; obtain ⟨t69, e109, hF⟩ := hF
                refine WL.b (some 69) t69 h_102 (index_row (P := Try.prog) (h := h_102) (t := 26) (e' := 42) (k := .i64) (by kernel_rfl) (by kernel_rfl) (by kernel_rfl) e109) ?_
                replace hF := obind_some hF; obtain ⟨t70, e110, hF⟩ := hF
                refine WL.b (some 70) (.agg t70) h_102 (load_row (P := Try.prog) (h := h_102) (t := 42) (by kernel_rfl) (by kernel_rfl) e110) ?_
                replace hF := lett_some hF; obtain ⟨h_111, e112, hF⟩ := hF
                refine WL.val (d := (some 10)) (v := (newP h_102)) (h' := h_111) (by kernel_rfl) (by kernel_rfl) (val_ofH e112 (by kernel_rfl)) ?_
                replace hF := obind_some hF; obtain ⟨h_113, e114, hF⟩ := hF
                refine WL.e h_113 (store_row (P := Try.prog) (h := h_111) (t := 42) (v := (.agg t70)) (by kernel_rfl) (by kernel_rfl) e114) ?_
                refine WL.n ?_
                refine Go.weaken (l' := [(5, (newP h_7)), (6, (AV.fn 20 [] [(newP h_7)])), (10, (newP h_102)), (65, v65), (66, .int .i64 t66), (67, .int .i64 t67)]) (Fr.c (Fr.c (Fr.c (Fr.c (Fr.c (Fr.c Fr.n)))))) ?_
                refine n108 ?_
                refine W.draw (by kernel_rfl) (hc.ok w0) (plan := [0, 1, 2, 3, 5, 6, 4, 7, 8, 9]) (by kernel_rfl) (by kernel_rfl) (by kernel_rfl) ?_
                refine WD.a 0 (some 71) (AV.fn 20 [] [(newP h_7)]) h_113 ?_
                refine WD.a 0 (some 72) (AV.ptr (AHeap.next h_102) 0) h_113 ?_
                replace hF := obind_some hF; obtain ⟨v73, e115, hF⟩ := hF
                replace hF := obind_some hF; obtain ⟨t73, c116, hF⟩ := hF
                have c116 := avInt_some c116
                subst c116
                refine WD.b 1 (some 73) (.int .i64 t73) h_113 (load_cell (P := Try.prog) (h := h_113) (t := 3) (by kernel_rfl) e115) ?_
                replace hF := lett_some hF; obtain ⟨t74, e117, hF⟩ := hF
                refine WD.val (d := (some 74)) (v := .int .u64 t74) (h' := h_113) (by kernel_rfl) (by kernel_rfl) (val_of (AV.int .u64) e117 (by kernel_rfl)) (k := 0) (by kernel_rfl) (fun e => absurd e (by decide)) (by decide) ?_
                refine WD.a 0 (some 76) (AV.ptr (AHeap.next h_102) 1) h_113 ?_
                replace hF := obind_some hF; obtain ⟨v77, e118, hF⟩ := hF
                replace hF := obind_some hF; obtain ⟨t77, c119, hF⟩ := hF
                have c119 := avStr_some c119
                subst c119
                refine WD.b 1 (some 77) (strA t77) h_113 (load_cell (P := Try.prog) (h := h_113) (t := 9) (by kernel_rfl) e118) ?_
                replace hF := callN_some hF; obtain ⟨r75, h_120, e121, hF⟩ := hF
                replace hF := obind_some hF; obtain ⟨t75, c122, hF⟩ := hF
                have c122 := avStr_some c122
                subst c122
                replace hF := chk_some hF; obtain ⟨k123, hF⟩ := hF
                refine WD.call (d := (some 75)) (by kernel_rfl) (by kernel_rfl) (by kernel_rfl) e121 (k := 2) (by kernel_rfl) (fun _ => (Eq.trans (by kernel_rfl) k123)) (by decide) ?_
                replace hF := callN_some hF; obtain ⟨r78, h_124, e125, hF⟩ := hF
                replace hF := obind_some hF; obtain ⟨t78, c126, hF⟩ := hF
                have c126 := avStr_some c126
                subst c126
                refine WD.call (d := (some 78)) (by kernel_rfl) (by kernel_rfl) (by kernel_rfl) e125 (k := 2) (by kernel_rfl) (fun _ => (by kernel_rfl)) (by decide) ?_
                replace hF := outK_some hF; obtain ⟨v79, h_127, e128, hF⟩ := hF
                refine WD.val (d := (some 79)) (v := v79) (h' := h_127) (by kernel_rfl) (by kernel_rfl) (Eq.trans (by kernel_rfl) e128) (k := 2) (by kernel_rfl) (fun _ => (by kernel_rfl)) (by decide) ?_
                replace hF := callN_some hF; obtain ⟨r80, h_129, e130, hF⟩ := hF
                refine WD.dyn (d := (some 80)) (by kernel_rfl) (by kernel_rfl) (by kernel_rfl) e130 (k := 2) (by kernel_rfl) (fun _ => (by kernel_rfl)) (by decide) ?_
                refine WD.nil ?_
                refine Go.weaken (l' := [(5, (newP h_7)), (6, (AV.fn 20 [] [(newP h_7)])), (65, v65), (66, .int .i64 t66), (67, .int .i64 t67)]) (Fr.c (Fr.c (Fr.c (Fr.c (Fr.c Fr.n))))) ?_
                refine n107 ?_
                refine n106 ?_
                refine W.r ?_
                replace hF := lett_some hF; obtain ⟨t81, e131, hF⟩ := hF
                refine WL.val (d := (some 81)) (v := .int .i64 t81) (h' := h_129) (by kernel_rfl) (by kernel_rfl) (val_of (AV.int .i64) e131 (by kernel_rfl)) ?_
                refine WL.a (some 67) (.int .i64 t81) h_129 ?_
                refine WL.n ?_
                refine Go.weaken (l' := [(5, (newP h_7)), (6, (AV.fn 20 [] [(newP h_7)])), (65, v65), (66, .int .i64 t66), (67, .int .i64 t81)]) (Fr.c (Fr.c (Fr.c (Fr.c (Fr.c Fr.n))))) ?_
                refine n101 ?_
                exact Go.weaken (Fr.c (Fr.c (Fr.c (Fr.c (Fr.c Fr.n))))) (ih101 _ _ hF)
              | false =>
                replace hF := ifB_f hF
                refine W.f ?_
                refine W.exit (by kernel_rfl) ?_
                refine e105 ?_
                refine e101 ?_
                refine s94 (by kernel_rfl) ?_
                exact Go.weaken (Fr.c Fr.n) (J95 _ hF)
          exact Go.weaken (Fr.c (Fr.c (Fr.c (Fr.c (Fr.c Fr.n))))) (L101 _ _ _ hF)
        · refine WL.call (hc.ok w0) (d := (some 63)) (by kernel_rfl) (by kernel_rfl) (Eq.trans (by kernel_rfl) d1321) d1322 ?_
          refine WL.n ?_
          refine Go.weaken (l' := [(1, v1), (5, (newP h_7)), (6, (AV.fn 20 [] [(newP h_7)]))]) (Fr.c (Fr.c (Fr.c Fr.n))) ?_
          refine n77 ?_
          refine W.s (fun K89 n89 e89 q89 p89 => ?_)
          refine W.s (fun K90 n90 e90 q90 p90 => ?_)
          refine W.r ?_
          replace hF := obind_some hF; obtain ⟨t64, e91, hF⟩ := hF
          refine WL.b (some 64) t64 h_87 (field_ptr (P := Try.prog) (h := h_87) (s := 30) (f := 9) (by kernel_rfl) e91) ?_
          replace hF := obind_some hF; obtain ⟨v65, e92, hF⟩ := hF
          refine WL.b (some 65) v65 h_87 (load_cell (P := Try.prog) (h := h_87) (t := 26) (by kernel_rfl) e92) ?_
          replace hF := obind_some hF; obtain ⟨t66, e93, hF⟩ := hF
          refine WL.b (some 66) (.int .i64 t66) h_87 (len_row (P := Try.prog) (h := h_87) (t := 26) (e' := 42) (by kernel_rfl) e93) ?_
          refine WL.a (some 67) (.int .i64 0) h_87 ?_
          refine WL.n ?_
          refine Go.weaken (l' := [(5, (newP h_7)), (6, (AV.fn 20 [] [(newP h_7)])), (65, v65), (66, .int .i64 t66), (67, .int .i64 0)]) (Fr.c (Fr.c (Fr.c (Fr.c (Fr.c Fr.n))))) ?_
          refine n90 ?_
          replace hF := lett_some hF; obtain ⟨k95, e95, hF⟩ := hF
          have J95 : ∀  (h_96 : AHeap), k95 h_96 = some (rR, hR) → Go w0 m0 (Func.ntmps Try.f9) (K89 .normal) [(5, (newP h_7))] [] h_96 := by
            intro  h_96 hF
            rw [e95] at hF
            refine n89 ?_
            refine W.s (fun K97 n97 e97 q97 p97 => ?_)
            refine W.r ?_
            replace hF := callN_some hF; obtain ⟨r82, h_98, e99, hF⟩ := hF
            replace hF := obind_some hF; obtain ⟨t82, c100, hF⟩ := hF
            have c100 := avStr_some c100
            subst c100
            refine WL.c (hc.ok w0) (some 82) e99 ?_
            refine WL.a (some 2) (strA t82) h_98 ?_
            refine WL.a (some 3) (.int .i64 0) h_98 ?_
            refine WL.n ?_
            refine Go.weaken (l' := [(2, strA t82), (3, .int .i64 0)]) (Fr.c (Fr.c Fr.n)) ?_
            refine n97 ?_
            refine W.ret (by kernel_rfl) ?_
            obtain ⟨hF, hF2⟩ := ret_inj hF; subst hF; subst hF2
            exact leave_of (rs := [.tmp 2, .tmp 3]) (vs := [strA t82, .int .i64 0]) (by kernel_rfl) (res_tmp (by kernel_rfl) (res_tmp (by kernel_rfl) res_nil)) (by kernel_rfl)
          refine W.blockK (by kernel_rfl) (fun K94 n94 s94 o94 q94 p94 => ?_)
          refine W.loopK (by kernel_rfl) (fun I101 K101 b101 n101 e101 q101 p101 => ?_)
          have L101 : ∀ (m : Nat) (t67 : Int) (h_102 : AHeap), message_Encode_L0 call h_7 v65 t66 k95 m t67 h_102 = some (rR, hR) → Go w0 m0 (Func.ntmps Try.f9) I101 [(5, (newP h_7)), (6, (AV.fn 20 [] [(newP h_7)])), (65, v65), (66, .int .i64 t66), (67, .int .i64 t67)] [] h_102 := by
            intro m
            induction m with
            | zero => intro t67 h_102 hF; cases hF
            | succ m ih101 =>
              intro t67 h_102 hF
              rw [message_Encode_L0_s] at hF; unfold message_Encode_L0b at hF
              refine b101 ?_
              refine W.s (fun K103 n103 e103 q103 p103 => ?_)
              refine W.r ?_
              replace hF := lett_some hF; obtain ⟨t68, e104, hF⟩ := hF
              refine WL.val (d := (some 68)) (v := .bool t68) (h' := h_102) (by kernel_rfl) (by kernel_rfl) (val_of AV.bool e104 (by kernel_rfl)) ?_
              refine WL.n ?_
              refine Go.weaken (l' := [(5, (newP h_7)), (6, (AV.fn 20 [] [(newP h_7)])), (65, v65), (66, .int .i64 t66), (67, .int .i64 t67), (68, .bool t68)]) (Fr.c (Fr.c (Fr.c (Fr.c (Fr.c (Fr.c Fr.n)))))) ?_
              refine n103 ?_
              refine W.s (fun K105 n105 e105 q105 p105 => ?_)
              cases t68 with
              | true =>
                replace hF := ifB_t hF
                refine W.t ?_
                refine W.skip (by kernel_rfl) ?_
                refine n105 ?_
                refine W.s (fun K106 n106 e106 q106 p106 => ?_)
                refine W.blockK (by kernel_rfl) (fun K107 n107 s107 o107 q107 p107 => ?_)
                refine W.s (fun K108 n108 e108 q108 p108 => ?_)
                refine W.r ?_
                replace hF := obind_some hF; obtain ⟨t69, e109, hF⟩ := hF
                refine WL.b (some 69) t69 h_102 (index_row (P := Try.prog) (h := h_102) (t := 26) (e' := 42) (k := .i64) (by kernel_rfl) (by kernel_rfl) (by kernel_rfl) e109) ?_
                replace hF := obind_some hF; obtain ⟨t70, e110, hF⟩ := hF
                refine WL.b (some 70) (.agg t70) h_102 (load_row (P := Try.prog) (h := h_102) (t := 42) (by kernel_rfl) (by kernel_rfl) e110) ?_
                replace hF := lett_some hF; obtain ⟨h_111, e112, hF⟩ := hF
                refine WL.val (d := (some 10)) (v := (newP h_102)) (h' := h_111) (by kernel_rfl) (by kernel_rfl) (val_ofH e112 (by kernel_rfl)) ?_
                replace hF := obind_some hF; obtain ⟨h_113, e114, hF⟩ := hF
                refine WL.e h_113 (store_row (P := Try.prog) (h := h_111) (t := 42) (v := (.agg t70)) (by kernel_rfl) (by kernel_rfl) e114) ?_
                refine WL.n ?_
                refine Go.weaken (l' := [(5, (newP h_7)), (6, (AV.fn 20 [] [(newP h_7)])), (10, (newP h_102)), (65, v65), (66, .int .i64 t66), (67, .int .i64 t67)]) (Fr.c (Fr.c (Fr.c (Fr.c (Fr.c (Fr.c Fr.n)))))) ?_
                refine n108 ?_
                refine W.draw (by kernel_rfl) (hc.ok w0) (plan := [0, 1, 2, 3, 5, 6, 4, 7, 8, 9]) (by kernel_rfl) (by kernel_rfl) (by kernel_rfl) ?_
                refine WD.a 0 (some 71) (AV.fn 20 [] [(newP h_7)]) h_113 ?_
                refine WD.a 0 (some 72) (AV.ptr (AHeap.next h_102) 0) h_113 ?_
                replace hF := obind_some hF; obtain ⟨v73, e115, hF⟩ := hF
                replace hF := obind_some hF; obtain ⟨t73, c116, hF⟩ := hF
                have c116 := avInt_some c116
                subst c116
                refine WD.b 1 (some 73) (.int .i64 t73) h_113 (load_cell (P := Try.prog) (h := h_113) (t := 3) (by kernel_rfl) e115) ?_
                replace hF := lett_some hF; obtain ⟨t74, e117, hF⟩ := hF
                refine WD.val (d := (some 74)) (v := .int .u64 t74) (h' := h_113) (by kernel_rfl) (by kernel_rfl) (val_of (AV.int .u64) e117 (by kernel_rfl)) (k := 0) (by kernel_rfl) (fun e => absurd e (by decide)) (by decide) ?_
                refine WD.a 0 (some 76) (AV.ptr (AHeap.next h_102) 1) h_113 ?_
                replace hF := obind_some hF; obtain ⟨v77, e118, hF⟩ := hF
                replace hF := obind_some hF; obtain ⟨t77, c119, hF⟩ := hF
                have c119 := avStr_some c119
                subst c119
                refine WD.b 1 (some 77) (strA t77) h_113 (load_cell (P := Try.prog) (h := h_113) (t := 9) (by kernel_rfl) e118) ?_
                replace hF := callN_some hF; obtain ⟨r75, h_120, e121, hF⟩ := hF
                replace hF := obind_some hF; obtain ⟨t75, c122, hF⟩ := hF
                have c122 := avStr_some c122
                subst c122
                replace hF := chk_some hF; obtain ⟨k123, hF⟩ := hF
                refine WD.call (d := (some 75)) (by kernel_rfl) (by kernel_rfl) (by kernel_rfl) e121 (k := 2) (by kernel_rfl) (fun _ => (Eq.trans (by kernel_rfl) k123)) (by decide) ?_
                replace hF := callN_some hF; obtain ⟨r78, h_124, e125, hF⟩ := hF
                replace hF := obind_some hF; obtain ⟨t78, c126, hF⟩ := hF
                have c126 := avStr_some c126
                subst c126
                refine WD.call (d := (some 78)) (by kernel_rfl) (by kernel_rfl) (by kernel_rfl) e125 (k := 2) (by kernel_rfl) (fun _ => (by kernel_rfl)) (by decide) ?_
                replace hF := outK_some hF; obtain ⟨v79, h_127, e128, hF⟩ := hF
                refine WD.val (d := (some 79)) (v := v79) (h' := h_127) (by kernel_rfl) (by kernel_rfl) (Eq.trans (by kernel_rfl) e128) (k := 2) (by kernel_rfl) (fun _ => (by kernel_rfl)) (by decide) ?_
                replace hF := callN_some hF; obtain ⟨r80, h_129, e130, hF⟩ := hF
                refine WD.dyn (d := (some 80)) (by kernel_rfl) (by kernel_rfl) (by kernel_rfl) e130 (k := 2) (by kernel_rfl) (fun _ => (by kernel_rfl)) (by decide) ?_
                refine WD.nil ?_
                refine Go.weaken (l' := [(5, (newP h_7)), (6, (AV.fn 20 [] [(newP h_7)])), (65, v65), (66, .int .i64 t66), (67, .int .i64 t67)]) (Fr.c (Fr.c (Fr.c (Fr.c (Fr.c Fr.n))))) ?_
                refine n107 ?_
                refine n106 ?_
                refine W.r ?_
                replace hF := lett_some hF; obtain ⟨t81, e131, hF⟩ := hF
                refine WL.val (d := (some 81)) (v := .int .i64 t81) (h' := h_129) (by kernel_rfl) (by kernel_rfl) (val_of (AV.int .i64) e131 (by kernel_rfl)) ?_
                refine WL.a (some 67) (.int .i64 t81) h_129 ?_
                refine WL.n ?_
                refine Go.weaken (l' := [(5, (newP h_7)), (6, (AV.fn 20 [] [(newP h_7)])), (65, v65), (66, .int .i64 t66), (67, .int .i64 t81)]) (Fr.c (Fr.c (Fr.c (Fr.c (Fr.c Fr.n))))) ?_
                refine n101 ?_
                exact Go.weaken (Fr.c (Fr.c (Fr.c (Fr.c (Fr.c Fr.n))))) (ih101 _ _ hF)
              | false =>
                replace hF := ifB_f hF
                refine W.f ?_
                refine W.exit (by kernel_rfl) ?_
                refine e105 ?_
                refine e101 ?_
                refine s94 (by kernel_rfl) ?_
                exact Go.weaken (Fr.c Fr.n) (J95 _ hF)
          exact Go.weaken (Fr.c (Fr.c (Fr.c (Fr.c (Fr.c Fr.n))))) (L101 _ _ _ hF)
      refine W.blockK (by kernel_rfl) (fun K33 n33 s33 o33 q33 p33 => ?_)
      refine W.loopK (by kernel_rfl) (fun I133 K133 b133 n133 e133 q133 p133 => ?_)
      have L133 : ∀ (m : Nat) (t24 : Int) (h_134 : AHeap), message_Encode_L1 call h_7 t23 k34 m t24 h_134 = some (rR, hR) → Go w0 m0 (Func.ntmps Try.f9) I133 [(1, v1), (5, (newP h_7)), (6, (AV.fn 20 [] [(newP h_7)])), (23, .agg t23), (24, .int .i64 t24)] [] h_134 := by
        intro m
        induction m with
        | zero => intro t24 h_134 hF; cases hF
        | succ m ih133 =>
          intro t24 h_134 hF
          rw [message_Encode_L1_s] at hF; unfold message_Encode_L1b at hF
          refine b133 ?_
          refine W.s (fun K135 n135 e135 q135 p135 => ?_)
          refine W.r ?_
          replace hF := lett_some hF; obtain ⟨t25, e136, hF⟩ := hF
          refine WL.val (d := (some 25)) (v := .bool t25) (h' := h_134) (by kernel_rfl) (by kernel_rfl) (val_of AV.bool e136 (by kernel_rfl)) ?_
          refine WL.n ?_
          refine Go.weaken (l' := [(1, v1), (5, (newP h_7)), (6, (AV.fn 20 [] [(newP h_7)])), (23, .agg t23), (24, .int .i64 t24), (25, .bool t25)]) (Fr.c (Fr.c (Fr.c (Fr.c (Fr.c (Fr.c Fr.n)))))) ?_
          refine n135 ?_
          refine W.s (fun K137 n137 e137 q137 p137 => ?_)
          cases t25 with
          | true =>
            replace hF := ifB_t hF
            refine W.t ?_
            refine W.skip (by kernel_rfl) ?_
            refine n137 ?_
            refine W.s (fun K138 n138 e138 q138 p138 => ?_)
            refine W.blockK (by kernel_rfl) (fun K139 n139 s139 o139 q139 p139 => ?_)
            refine W.s (fun K140 n140 e140 q140 p140 => ?_)
            refine W.r ?_
            replace hF := outK_some hF; obtain ⟨v26, h_141, e142, hF⟩ := hF
            refine WL.b (some 26) v26 h_141 e142 ?_
            refine WL.a (some 8) v26 h_141 ?_
            refine WL.n ?_
            refine Go.weaken (l' := [(1, v1), (5, (newP h_7)), (6, (AV.fn 20 [] [(newP h_7)])), (8, v26), (23, .agg t23), (24, .int .i64 t24)]) (Fr.c (Fr.c (Fr.c (Fr.c (Fr.c (Fr.c Fr.n)))))) ?_
            refine n140 ?_
            refine W.r ?_
            refine WL.a (some 27) (AV.fn 20 [] [(newP h_7)]) h_141 ?_
            refine WL.a (some 28) v26 h_141 ?_
            replace hF := obind_some hF; obtain ⟨t29, e143, hF⟩ := hF
            refine WL.b (some 29) t29 h_141 (nil_chk (h := h_141) e143) ?_
            replace hF := obind_some hF; obtain ⟨v30, e144, hF⟩ := hF
            replace hF := obind_some hF; obtain ⟨t30, c145, hF⟩ := hF
            have c145 := avInt_some c145
            subst c145
            refine WL.b (some 30) (.int .i64 t30) h_141 (load_cell (P := Try.prog) (h := h_141) (t := 3) (by kernel_rfl) e144) ?_
            replace hF := lett_some hF; obtain ⟨t31, e146, hF⟩ := hF
            refine WL.val (d := (some 31)) (v := .int .u64 t31) (h' := h_141) (by kernel_rfl) (by kernel_rfl) (val_of (AV.int .u64) e146 (by kernel_rfl)) ?_
            replace hF := callN_some hF; obtain ⟨r32, h_147, e148, hF⟩ := hF
            replace hF := obind_some hF; obtain ⟨t32, c149, hF⟩ := hF
            have c149 := avStr_some c149
            subst c149
            refine WL.c (hc.ok w0) (some 32) e148 ?_
            replace hF := outK_some hF; obtain ⟨v33, h_150, e151, hF⟩ := hF
            refine WL.b (some 33) v33 h_150 e151 ?_
            replace hF := callN_some hF; obtain ⟨r34, h_152, e153, hF⟩ := hF
            rcases dynC_some e153 with ⟨d155g, d155as, d155h, d1551, d1552⟩ | ⟨d155v, d155h, d1551, d1552⟩
            rotate_left
            · cases d1552
              refine WL.val (d := (some 34)) (by kernel_rfl) (by kernel_rfl) (Eq.trans (by kernel_rfl) d1551) ?_
              refine WL.n ?_
              refine Go.weaken (l' := [(1, v1), (5, (newP h_7)), (6, (AV.fn 20 [] [(newP h_7)])), (23, .agg t23), (24, .int .i64 t24)]) (Fr.c (Fr.c (Fr.c (Fr.c (Fr.c Fr.n))))) ?_
              refine n139 ?_
              refine n138 ?_
              refine W.r ?_
              replace hF := lett_some hF; obtain ⟨t35, e154, hF⟩ := hF
              refine WL.val (d := (some 35)) (v := .int .i64 t35) (h' := h_152) (by kernel_rfl) (by kernel_rfl) (val_of (AV.int .i64) e154 (by kernel_rfl)) ?_
              refine WL.a (some 24) (.int .i64 t35) h_152 ?_
              refine WL.n ?_
              refine Go.weaken (l' := [(1, v1), (5, (newP h_7)), (6, (AV.fn 20 [] [(newP h_7)])), (23, .agg t23), (24, .int .i64 t35)]) (Fr.c (Fr.c (Fr.c (Fr.c (Fr.c Fr.n))))) ?_
              refine n133 ?_
              exact Go.weaken (Fr.c (Fr.c (Fr.c (Fr.c (Fr.c Fr.n))))) (ih133 _ _ hF)
            · refine WL.call (hc.ok w0) (d := (some 34)) (by kernel_rfl) (by kernel_rfl) (Eq.trans (by kernel_rfl) d1551) d1552 ?_
              refine WL.n ?_
              refine Go.weaken (l' := [(1, v1), (5, (newP h_7)), (6, (AV.fn 20 [] [(newP h_7)])), (23, .agg t23), (24, .int .i64 t24)]) (Fr.c (Fr.c (Fr.c (Fr.c (Fr.c Fr.n))))) ?_
              refine n139 ?_
              refine n138 ?_
              refine W.r ?_
              replace hF := lett_some hF; obtain ⟨t35, e154, hF⟩ := hF
              refine WL.val (d := (some 35)) (v := .int .i64 t35) (h' := h_152) (by kernel_rfl) (by kernel_rfl) (val_of (AV.int .i64) e154 (by kernel_rfl)) ?_
              refine WL.a (some 24) (.int .i64 t35) h_152 ?_
              refine WL.n ?_
              refine Go.weaken (l' := [(1, v1), (5, (newP h_7)), (6, (AV.fn 20 [] [(newP h_7)])), (23, .agg t23), (24, .int .i64 t35)]) (Fr.c (Fr.c (Fr.c (Fr.c (Fr.c Fr.n))))) ?_
              refine n133 ?_
              exact Go.weaken (Fr.c (Fr.c (Fr.c (Fr.c (Fr.c Fr.n))))) (ih133 _ _ hF)
          | false =>
            replace hF := ifB_f hF
            refine W.f ?_
            refine W.exit (by kernel_rfl) ?_
            refine e137 ?_
            refine e133 ?_
            refine s33 (by kernel_rfl) ?_
            exact Go.weaken (Fr.c (Fr.c (Fr.c Fr.n))) (J34 _ hF)
      exact Go.weaken (Fr.c (Fr.c (Fr.c (Fr.c (Fr.c Fr.n))))) (L133 _ _ _ hF)
noncomputable def message_Encode_fn (call : CallF) (n : Nat) : FnT := fun args h => match args with
  | [x0] => obind (avAgg x0) fun t0 => message_Encode call n t0 h
  | _ => none
set_option maxRecDepth 100000 in
theorem message_Encode_fn_eq (call : CallF) (n : Nat) (t0 : List AV) (h : AHeap) : message_Encode_fn call n [.agg t0] h = message_Encode call n t0 h :=
  (Eq.trans (obind_eq (fun t0 => message_Encode call n t0 h) (avAgg_agg t0)) rfl)
theorem message_Encode_holds {call : CallF} (hc : SaysAll Try.prog call) (n : Nat) : Holds Try.prog 9 (message_Encode_fn call n) := by
  intro args h r h2 e
  unfold message_Encode_fn at e
  split at e
  · replace e := obind_some e; obtain ⟨t0, c0, e⟩ := e; have c0 := avAgg_some c0; subst c0
    exact message_Encode_ok hc e
  · cases e

noncomputable def message_Encode_1_L0b (call : CallF) (t0 : AV) (t1 : AV) (t6 : Int) (k4 : AHeap → R) (self : Int → AHeap → R) (t7 : Int) (h_7 : AHeap) : R :=
  lett (decide (t7 < t6)) fun (t8 : Bool) =>
  ifB t8
  (
    obind (idxP 1 t0 t7) fun t9 =>
    obind (ldCell h_7 t9) fun v10 =>
    obind (avStr v10) fun t10 =>
    callN (call 21 [t1, strA t10] h_7) fun _ h_17 =>
    lett (IntKind.i64.wrap (t7 + 1)) fun (t13 : Int) =>
    self t13 h_17)
  (
    k4 h_7)
noncomputable def message_Encode_1_L0 (call : CallF) (t0 : AV) (t1 : AV) (t6 : Int) (k4 : AHeap → R) : Nat → Int → AHeap → R := iterR (fun _ _ => none) (message_Encode_1_L0b call t0 t1 t6 k4)
theorem message_Encode_1_L0_s (call : CallF) (t0 : AV) (t1 : AV) (t6 : Int) (k4 : AHeap → R) (m : Nat) : message_Encode_1_L0 call t0 t1 t6 k4 (m + 1) = message_Encode_1_L0b call t0 t1 t6 k4 (message_Encode_1_L0 call t0 t1 t6 k4 m) := rfl
noncomputable def message_Encode_1 (call : CallF) (n : Nat) (t0 : AV) (t1 : AV) (h : AHeap) : R :=
  obind (lenL t0) fun t6 =>
  lett (fun  (h_5 : AHeap) =>
    some (.ret (.tup []), h_5)) fun k4 =>
  message_Encode_1_L0 call t0 t1 t6 k4 n 0 h
set_option maxHeartbeats 4000000 in
set_option maxRecDepth 20000 in
theorem message_Encode_1_ok {call : CallF} (hc : SaysAll Try.prog call) {n : Nat} {t0 : AV} {t1 : AV} {h : AHeap} {rR : ARes} {hR : AHeap} (hF : message_Encode_1 call n t0 t1 h = some (rR, hR)) : Says Try.prog 20 [t0, t1] h rR hR := by
  unfold message_Encode_1 at hF
  refine says_of (fn := Try.f20) Try.func20 (c := codeOf Try.f20) (by kernel_rfl) (by kernel_rfl) (fun w0 m0 => ?_)
  refine W.weaken (l' := [(0, t0), (1, t1)]) (Fr.c (Fr.c Fr.n)) ?_
  refine W.s (fun K1 n1 e1 q1 p1 => ?_)
  refine W.r ?_
  refine WL.a (some 5) t0 h ?_
  replace hF := obind_some hF; obtain ⟨t6, e2, hF⟩ := hF
  refine WL.b (some 6) (.int .i64 t6) h (len_row (P := Try.prog) (h := h) (t := 54) (e' := 9) (by kernel_rfl) e2) ?_
  refine WL.a (some 7) (.int .i64 0) h ?_
  refine WL.n ?_
  refine Go.weaken (l' := [(1, t1), (5, t0), (6, .int .i64 t6), (7, .int .i64 0)]) (Fr.c (Fr.c (Fr.c (Fr.c Fr.n)))) ?_
  refine n1 ?_
  replace hF := lett_some hF; obtain ⟨k4, e4, hF⟩ := hF
  have J4 : ∀  (h_5 : AHeap), k4 h_5 = some (rR, hR) → Go w0 m0 (Func.ntmps Try.f20) (Fin Try.prog Try.f20 w0 m0 rR hR .normal) [] [] h_5 := by
    intro  h_5 hF
    rw [e4] at hF
    obtain ⟨hF, hF2⟩ := ret_inj hF; subst hF; subst hF2
    exact leaveN_of (rs := []) (vs := []) (by kernel_rfl) res_nil (by kernel_rfl)
  refine W.blockK (by kernel_rfl) (fun K3 n3 s3 o3 q3 p3 => ?_)
  refine W.loopK (by kernel_rfl) (fun I6 K6 b6 n6 e6 q6 p6 => ?_)
  have L6 : ∀ (m : Nat) (t7 : Int) (h_7 : AHeap), message_Encode_1_L0 call t0 t1 t6 k4 m t7 h_7 = some (rR, hR) → Go w0 m0 (Func.ntmps Try.f20) I6 [(1, t1), (5, t0), (6, .int .i64 t6), (7, .int .i64 t7)] [] h_7 := by
    intro m
    induction m with
    | zero => intro t7 h_7 hF; cases hF
    | succ m ih6 =>
      intro t7 h_7 hF
      rw [message_Encode_1_L0_s] at hF; unfold message_Encode_1_L0b at hF
      refine b6 ?_
      refine W.s (fun K8 n8 e8 q8 p8 => ?_)
      refine W.r ?_
      replace hF := lett_some hF; obtain ⟨t8, e9, hF⟩ := hF
      refine WL.val (d := (some 8)) (v := .bool t8) (h' := h_7) (by kernel_rfl) (by kernel_rfl) (val_of AV.bool e9 (by kernel_rfl)) ?_
      refine WL.n ?_
      refine Go.weaken (l' := [(1, t1), (5, t0), (6, .int .i64 t6), (7, .int .i64 t7), (8, .bool t8)]) (Fr.c (Fr.c (Fr.c (Fr.c (Fr.c Fr.n))))) ?_
      refine n8 ?_
      refine W.s (fun K10 n10 e10 q10 p10 => ?_)
      cases t8 with
      | true =>
        replace hF := ifB_t hF
        refine W.t ?_
        refine W.skip (by kernel_rfl) ?_
        refine n10 ?_
        refine W.s (fun K11 n11 e11 q11 p11 => ?_)
        refine W.blockK (by kernel_rfl) (fun K12 n12 s12 o12 q12 p12 => ?_)
        refine W.s (fun K13 n13 e13 q13 p13 => ?_)
        refine W.r ?_
        replace hF := obind_some hF; obtain ⟨t9, e14, hF⟩ := hF
        refine WL.b (some 9) t9 h_7 (index_row (P := Try.prog) (h := h_7) (t := 54) (e' := 9) (k := .i64) (by kernel_rfl) (by kernel_rfl) (by kernel_rfl) e14) ?_
        replace hF := obind_some hF; obtain ⟨v10, e15, hF⟩ := hF
        replace hF := obind_some hF; obtain ⟨t10, c16, hF⟩ := hF
        have c16 := avStr_some c16
        subst c16
        refine WL.b (some 10) (strA t10) h_7 (load_cell (P := Try.prog) (h := h_7) (t := 9) (by kernel_rfl) e15) ?_
        refine WL.a (some 4) (strA t10) h_7 ?_
        refine WL.n ?_
        refine Go.weaken (l' := [(1, t1), (4, strA t10), (5, t0), (6, .int .i64 t6), (7, .int .i64 t7)]) (Fr.c (Fr.c (Fr.c (Fr.c (Fr.c Fr.n))))) ?_
        refine n13 ?_
        refine W.r ?_
        refine WL.a (some 11) (strA t10) h_7 ?_
        replace hF := callN_some hF; obtain ⟨r12, h_17, e18, hF⟩ := hF
        refine WL.c (hc.ok w0) (some 12) e18 ?_
        refine WL.n ?_
        refine Go.weaken (l' := [(1, t1), (5, t0), (6, .int .i64 t6), (7, .int .i64 t7)]) (Fr.c (Fr.c (Fr.c (Fr.c Fr.n)))) ?_
        refine n12 ?_
        refine n11 ?_
        refine W.r ?_
        replace hF := lett_some hF; obtain ⟨t13, e19, hF⟩ := hF
        refine WL.val (d := (some 13)) (v := .int .i64 t13) (h' := h_17) (by kernel_rfl) (by kernel_rfl) (val_of (AV.int .i64) e19 (by kernel_rfl)) ?_
        refine WL.a (some 7) (.int .i64 t13) h_17 ?_
        refine WL.n ?_
        refine Go.weaken (l' := [(1, t1), (5, t0), (6, .int .i64 t6), (7, .int .i64 t13)]) (Fr.c (Fr.c (Fr.c (Fr.c Fr.n)))) ?_
        refine n6 ?_
        exact Go.weaken (Fr.c (Fr.c (Fr.c (Fr.c Fr.n)))) (ih6 _ _ hF)
      | false =>
        replace hF := ifB_f hF
        refine W.f ?_
        refine W.exit (by kernel_rfl) ?_
        refine e10 ?_
        refine e6 ?_
        refine s3 (by kernel_rfl) ?_
        exact Go.weaken Fr.n (J4 _ hF)
  exact Go.weaken (Fr.c (Fr.c (Fr.c (Fr.c Fr.n)))) (L6 _ _ _ hF)
noncomputable def message_Encode_1_fn (call : CallF) (n : Nat) : FnT := fun args h => match args with
  | [x0, x1] => message_Encode_1 call n x0 x1 h
  | _ => none
set_option maxRecDepth 100000 in
theorem message_Encode_1_fn_eq (call : CallF) (n : Nat) (t0 : AV) (t1 : AV) (h : AHeap) : message_Encode_1_fn call n [t0, t1] h = message_Encode_1 call n t0 t1 h :=
  rfl
theorem message_Encode_1_holds {call : CallF} (hc : SaysAll Try.prog call) (n : Nat) : Holds Try.prog 20 (message_Encode_1_fn call n) := by
  intro args h r h2 e
  unfold message_Encode_1_fn at e
  split at e
  · exact message_Encode_1_ok hc e
  · cases e

noncomputable def strings_Builder_WriteString (call : CallF) (_ : Nat) (t0 : AV) (t1 : Bytes) (h : AHeap) : R :=
  callN (call 43 [t0] h) fun _ h_3 =>
  obind (nilC t0) fun t10 =>
  obind (fldP 1 t10) fun t11 =>
  obind (ldCell h_3 t11) fun v12 =>
  outK (opAppend Try.prog h_3 37 9 v12 (strA t1)) fun v14 h_9 =>
  obind (nilC t0) fun t15 =>
  obind (fldP 1 t15) fun t16 =>
  obind (stRow h_9 1 (AV.cells v14) t16) fun h_13 =>
  some (.ret (.tup [.int .i64 (lenS t1), AV.nifc]), h_13)
set_option maxHeartbeats 4000000 in
set_option maxRecDepth 20000 in
theorem strings_Builder_WriteString_ok {call : CallF} (hc : SaysAll Try.prog call) {n : Nat} {t0 : AV} {t1 : Bytes} {h : AHeap} {rR : ARes} {hR : AHeap} (hF : strings_Builder_WriteString call n t0 t1 h = some (rR, hR)) : Says Try.prog 21 [t0, strA t1] h rR hR := by
  unfold strings_Builder_WriteString at hF
  refine says_of (fn := Try.f21) Try.func21 (c := codeOf Try.f21) (by kernel_rfl) (by kernel_rfl) (fun w0 m0 => ?_)
  refine W.weaken (l' := [(0, t0), (1, strA t1)]) (Fr.c (Fr.c Fr.n)) ?_
  refine W.s (fun K1 n1 e1 q1 p1 => ?_)
  refine W.r ?_
  refine WL.a (some 4) (.int .i64 0) h ?_
  refine WL.a (some 5) AV.nifc h ?_
  refine WL.n ?_
  refine Go.weaken (l' := [(0, t0), (1, strA t1)]) (Fr.c (Fr.c Fr.n)) ?_
  refine n1 ?_
  refine W.s (fun K2 n2 e2 q2 p2 => ?_)
  refine W.r ?_
  refine WL.a (some 6) t0 h ?_
  replace hF := callN_some hF; obtain ⟨r7, h_3, e4, hF⟩ := hF
  refine WL.c (hc.ok w0) (some 7) e4 ?_
  refine WL.n ?_
  refine Go.weaken (l' := [(0, t0), (1, strA t1)]) (Fr.c (Fr.c Fr.n)) ?_
  refine n2 ?_
  refine W.s (fun K5 n5 e5 q5 p5 => ?_)
  refine W.r ?_
  refine WL.a (some 8) t0 h_3 ?_
  refine WL.a (some 9) t0 h_3 ?_
  replace hF := obind_some hF; obtain ⟨t10, e6, hF⟩ := hF
  refine WL.b (some 10) t10 h_3 (nil_chk (h := h_3) e6) ?_
  replace hF := obind_some hF; obtain ⟨t11, e7, hF⟩ := hF
  refine WL.b (some 11) t11 h_3 (field_ptr (P := Try.prog) (h := h_3) (s := 53) (f := 1) (by kernel_rfl) e7) ?_
  replace hF := obind_some hF; obtain ⟨v12, e8, hF⟩ := hF
  refine WL.b (some 12) v12 h_3 (load_cell (P := Try.prog) (h := h_3) (t := 37) (by kernel_rfl) e8) ?_
  refine WL.a (some 13) (strA t1) h_3 ?_
  replace hF := outK_some hF; obtain ⟨v14, h_9, e10, hF⟩ := hF
  refine WL.b (some 14) v14 h_9 e10 ?_
  replace hF := obind_some hF; obtain ⟨t15, e11, hF⟩ := hF
  refine WL.b (some 15) t15 h_9 (nil_chk (h := h_9) e11) ?_
  replace hF := obind_some hF; obtain ⟨t16, e12, hF⟩ := hF
  refine WL.b (some 16) t16 h_9 (field_ptr (P := Try.prog) (h := h_9) (s := 53) (f := 1) (by kernel_rfl) e12) ?_
  replace hF := obind_some hF; obtain ⟨h_13, e14, hF⟩ := hF
  refine WL.e h_13 (store_row (P := Try.prog) (h := h_9) (t := 37) (v := v14) (by kernel_rfl) (by kernel_rfl) e14) ?_
  refine WL.n ?_
  refine Go.weaken (l' := [(1, strA t1)]) (Fr.c Fr.n) ?_
  refine n5 ?_
  refine W.s (fun K15 n15 e15 q15 p15 => ?_)
  refine W.r ?_
  refine WL.a (some 17) (strA t1) h_13 ?_
  refine WL.a (some 18) (.int .i64 (lenS t1)) h_13 ?_
  refine WL.a (some 4) (.int .i64 (lenS t1)) h_13 ?_
  refine WL.a (some 5) AV.nifc h_13 ?_
  refine WL.n ?_
  refine Go.weaken (l' := [(4, .int .i64 (lenS t1)), (5, AV.nifc)]) (Fr.c (Fr.c Fr.n)) ?_
  refine n15 ?_
  refine W.ret (by kernel_rfl) ?_
  obtain ⟨hF, hF2⟩ := ret_inj hF; subst hF; subst hF2
  exact leave_of (rs := [.tmp 4, .tmp 5]) (vs := [.int .i64 (lenS t1), AV.nifc]) (by kernel_rfl) (res_tmp (by kernel_rfl) (res_tmp (by kernel_rfl) res_nil)) (by kernel_rfl)
noncomputable def strings_Builder_WriteString_fn (call : CallF) (n : Nat) : FnT := fun args h => match args with
  | [x0, x1] => obind (avStr x1) fun t1 => strings_Builder_WriteString call n x0 t1 h
  | _ => none
set_option maxRecDepth 100000 in
theorem strings_Builder_WriteString_fn_eq (call : CallF) (n : Nat) (t0 : AV) (t1 : Bytes) (h : AHeap) : strings_Builder_WriteString_fn call n [t0, strA t1] h = strings_Builder_WriteString call n t0 t1 h :=
  (Eq.trans (obind_eq (fun t1 => strings_Builder_WriteString call n t0 t1 h) (avStr_str t1)) rfl)
theorem strings_Builder_WriteString_holds {call : CallF} (hc : SaysAll Try.prog call) (n : Nat) : Holds Try.prog 21 (strings_Builder_WriteString_fn call n) := by
  intro args h r h2 e
  unfold strings_Builder_WriteString_fn at e
  split at e
  · replace e := obind_some e; obtain ⟨t1, c1, e⟩ := e; have c1 := avStr_some c1; subst c1
    exact strings_Builder_WriteString_ok hc e
  · cases e

noncomputable def strings_Builder_String (_ : CallF) (_ : Nat) (t0 : AV) (h : AHeap) : R :=
  obind (nilC t0) fun t4 =>
  obind (fldP 1 t4) fun t5 =>
  obind (ldCell h t5) fun v6 =>
  obind (nilC t0) fun t9 =>
  obind (fldP 1 t9) fun t10 =>
  obind (ldCell h t10) fun v11 =>
  obind (lenL v11) fun t12 =>
  outK (opSliceData h v6) fun v7 h_10 =>
  chk (reLoad Try.prog h_10 37 t10 v11 && (true && true)) <|
  outK (opUnsafeStr Try.prog h_10 93 v7 (.int .i64 t12)) fun v13 h_13 =>
  obind (avStr v13) fun t13 =>
  some (.ret (strA t13), h_13)
set_option maxHeartbeats 4000000 in
set_option maxRecDepth 20000 in
theorem strings_Builder_String_ok {call : CallF} (hc : SaysAll Try.prog call) {n : Nat} {t0 : AV} {h : AHeap} {rR : ARes} {hR : AHeap} (hF : strings_Builder_String call n t0 h = some (rR, hR)) : Says Try.prog 28 [t0] h rR hR := by
  unfold strings_Builder_String at hF
  refine says_of (fn := Try.f28) Try.func28 (c := codeOf Try.f28) (by kernel_rfl) (by kernel_rfl) (fun w0 m0 => ?_)
  refine W.weaken (l' := [(0, t0)]) (Fr.c Fr.n) ?_
  refine W.s (fun K1 n1 e1 q1 p1 => ?_)
  refine W.r ?_
  refine WL.a (some 2) (strA ([] : Bytes)) h ?_
  refine WL.n ?_
  refine Go.weaken (l' := [(0, t0)]) (Fr.c Fr.n) ?_
  refine n1 ?_
  refine W.s (fun K2 n2 e2 q2 p2 => ?_)
  refine W.draw (by kernel_rfl) (hc.ok w0) (plan := [0, 1, 2, 3, 5, 6, 7, 8, 9, 4, 10, 11]) (by kernel_rfl) (by kernel_rfl) (by kernel_rfl) ?_
  refine WD.a 0 (some 3) t0 h ?_
  replace hF := obind_some hF; obtain ⟨t4, e3, hF⟩ := hF
  refine WD.b 0 (some 4) t4 h (nil_chk (h := h) e3) ?_
  replace hF := obind_some hF; obtain ⟨t5, e4, hF⟩ := hF
  refine WD.b 0 (some 5) t5 h (field_ptr (P := Try.prog) (h := h) (s := 53) (f := 1) (by kernel_rfl) e4) ?_
  replace hF := obind_some hF; obtain ⟨v6, e5, hF⟩ := hF
  refine WD.b 1 (some 6) v6 h (load_cell (P := Try.prog) (h := h) (t := 37) (by kernel_rfl) e5) ?_
  refine WD.a 0 (some 8) t0 h ?_
  replace hF := obind_some hF; obtain ⟨t9, e6, hF⟩ := hF
  refine WD.b 0 (some 9) t9 h (nil_chk (h := h) e6) ?_
  replace hF := obind_some hF; obtain ⟨t10, e7, hF⟩ := hF
  refine WD.b 0 (some 10) t10 h (field_ptr (P := Try.prog) (h := h) (s := 53) (f := 1) (by kernel_rfl) e7) ?_
  replace hF := obind_some hF; obtain ⟨v11, e8, hF⟩ := hF
  refine WD.b 1 (some 11) v11 h (load_cell (P := Try.prog) (h := h) (t := 37) (by kernel_rfl) e8) ?_
  replace hF := obind_some hF; obtain ⟨t12, e9, hF⟩ := hF
  refine WD.b 0 (some 12) (.int .i64 t12) h (len_row (P := Try.prog) (h := h) (t := 37) (e' := 5) (by kernel_rfl) e9) ?_
  replace hF := outK_some hF; obtain ⟨v7, h_10, e11, hF⟩ := hF
  replace hF := chk_some hF; obtain ⟨k12, hF⟩ := hF
  refine WD.val (d := (some 7)) (v := v7) (h' := h_10) (by kernel_rfl) (by kernel_rfl) (Eq.trans (by kernel_rfl) e11) (k := 2) (by kernel_rfl) (fun _ => (Eq.trans (by kernel_rfl) k12)) (by decide) ?_
  replace hF := outK_some hF; obtain ⟨v13, h_13, e14, hF⟩ := hF
  replace hF := obind_some hF; obtain ⟨t13, c15, hF⟩ := hF
  have c15 := avStr_some c15
  subst c15
  refine WD.val (d := (some 13)) (v := strA t13) (h' := h_13) (by kernel_rfl) (by kernel_rfl) (Eq.trans (by kernel_rfl) e14) (k := 2) (by kernel_rfl) (fun _ => (by kernel_rfl)) (by decide) ?_
  refine WD.a 0 (some 2) (strA t13) h_13 ?_
  refine WD.nil ?_
  refine Go.weaken (l' := [(2, strA t13)]) (Fr.c Fr.n) ?_
  refine n2 ?_
  refine W.ret (by kernel_rfl) ?_
  obtain ⟨hF, hF2⟩ := ret_inj hF; subst hF; subst hF2
  exact leave_of (rs := [.tmp 2]) (vs := [strA t13]) (by kernel_rfl) (res_tmp (by kernel_rfl) res_nil) (by kernel_rfl)
noncomputable def strings_Builder_String_fn (call : CallF) (n : Nat) : FnT := fun args h => match args with
  | [x0] => strings_Builder_String call n x0 h
  | _ => none
set_option maxRecDepth 100000 in
theorem strings_Builder_String_fn_eq (call : CallF) (n : Nat) (t0 : AV) (h : AHeap) : strings_Builder_String_fn call n [t0] h = strings_Builder_String call n t0 h :=
  rfl
theorem strings_Builder_String_holds {call : CallF} (hc : SaysAll Try.prog call) (n : Nat) : Holds Try.prog 28 (strings_Builder_String_fn call n) := by
  intro args h r h2 e
  unfold strings_Builder_String_fn at e
  split at e
  · exact strings_Builder_String_ok hc e
  · cases e

noncomputable def strings_Builder_copyCheck (_ : CallF) (_ : Nat) (t0 : AV) (h : AHeap) : R :=
  obind (nilC t0) fun t3 =>
  obind (fldP 0 t3) fun t4 =>
  obind (ldCell h t4) fun v5 =>
  outK (opBin Try.prog h .eql 51 true (some v5) (some AV.nilp)) fun v6 h_5 =>
  obind (avBool v6) fun t6 =>
  lett (fun  (h_9 : AHeap) =>
    some (.ret (.tup []), h_9)) fun k8 =>
  ifB t6
  (
    outK (opConv Try.prog h_5 51 99 (some t0)) fun v9 h_10 =>
    outK (externA Try.prog h_10 53 [v9]) fun v10 h_14 =>
    outK (opConv Try.prog h_14 99 51 (some v10)) fun v11 h_16 =>
    obind (nilC t0) fun t12 =>
    obind (fldP 0 t12) fun t13 =>
    obind (stRow h_16 1 (AV.cells v11) t13) fun h_20 =>
    k8 h_20)
  (
    obind (nilC t0) fun t15 =>
    obind (fldP 0 t15) fun t16 =>
    obind (ldCell h_5 t16) fun v17 =>
    outK (opBinV Try.prog h_5 .neq 51 false (some v17) (some t0)) fun v19 h_26 =>
    obind (avBool v19) fun t19 =>
    ifB t19
    (
      none)
    (
      k8 h_26))
set_option maxHeartbeats 4000000 in
set_option maxRecDepth 20000 in
theorem strings_Builder_copyCheck_ok {call : CallF} (_ : SaysAll Try.prog call) {n : Nat} {t0 : AV} {h : AHeap} {rR : ARes} {hR : AHeap} (hF : strings_Builder_copyCheck call n t0 h = some (rR, hR)) : Says Try.prog 43 [t0] h rR hR := by
  unfold strings_Builder_copyCheck at hF
  refine says_of (fn := Try.f43) Try.func43 (c := codeOf Try.f43) (by kernel_rfl) (by kernel_rfl) (fun w0 m0 => ?_)
  refine W.weaken (l' := [(0, t0)]) (Fr.c Fr.n) ?_
  refine W.s (fun K1 n1 e1 q1 p1 => ?_)
  refine W.r ?_
  refine WL.a (some 2) t0 h ?_
  replace hF := obind_some hF; obtain ⟨t3, e2, hF⟩ := hF
  refine WL.b (some 3) t3 h (nil_chk (h := h) e2) ?_
  replace hF := obind_some hF; obtain ⟨t4, e3, hF⟩ := hF
  refine WL.b (some 4) t4 h (field_ptr (P := Try.prog) (h := h) (s := 53) (f := 0) (by kernel_rfl) e3) ?_
  replace hF := obind_some hF; obtain ⟨v5, e4, hF⟩ := hF
  refine WL.b (some 5) v5 h (load_cell (P := Try.prog) (h := h) (t := 51) (by kernel_rfl) e4) ?_
  replace hF := outK_some hF; obtain ⟨v6, h_5, e6, hF⟩ := hF
  replace hF := obind_some hF; obtain ⟨t6, c7, hF⟩ := hF
  have c7 := avBool_some c7
  subst c7
  refine WL.b (some 6) (.bool t6) h_5 e6 ?_
  refine WL.n ?_
  refine Go.weaken (l' := [(0, t0), (6, .bool t6)]) (Fr.c (Fr.c Fr.n)) ?_
  refine n1 ?_
  replace hF := lett_some hF; obtain ⟨k8, e8, hF⟩ := hF
  have J8 : ∀  (h_9 : AHeap), k8 h_9 = some (rR, hR) → Go w0 m0 (Func.ntmps Try.f43) (Fin Try.prog Try.f43 w0 m0 rR hR .normal) [] [] h_9 := by
    intro  h_9 hF
    rw [e8] at hF
    obtain ⟨hF, hF2⟩ := ret_inj hF; subst hF; subst hF2
    exact leaveN_of (rs := []) (vs := []) (by kernel_rfl) res_nil (by kernel_rfl)
  cases t6 with
  | true =>
    replace hF := ifB_t hF
    refine W.t ?_
    refine W.r ?_
    refine WL.a (some 7) t0 h_5 ?_
    refine WL.a (some 8) t0 h_5 ?_
    replace hF := outK_some hF; obtain ⟨v9, h_10, e11, hF⟩ := hF
    refine WL.b (some 9) v9 h_10 e11 ?_
    replace hF := outK_some hF; obtain ⟨v10, h_14, e15, hF⟩ := hF
    refine WL.b (some 10) v10 h_14 e15 ?_
    replace hF := outK_some hF; obtain ⟨v11, h_16, e17, hF⟩ := hF
    refine WL.b (some 11) v11 h_16 e17 ?_
    replace hF := obind_some hF; obtain ⟨t12, e18, hF⟩ := hF
    refine WL.b (some 12) t12 h_16 (nil_chk (h := h_16) e18) ?_
    replace hF := obind_some hF; obtain ⟨t13, e19, hF⟩ := hF
    refine WL.b (some 13) t13 h_16 (field_ptr (P := Try.prog) (h := h_16) (s := 53) (f := 0) (by kernel_rfl) e19) ?_
    replace hF := obind_some hF; obtain ⟨h_20, e21, hF⟩ := hF
    refine WL.e h_20 (store_row (P := Try.prog) (h := h_16) (t := 51) (v := v11) (by kernel_rfl) (by kernel_rfl) e21) ?_
    refine WL.n ?_
    refine Go.weaken (l' := []) Fr.n ?_
    exact Go.weaken Fr.n (J8 _ hF)
  | false =>
    replace hF := ifB_f hF
    refine W.f ?_
    refine W.s (fun K22 n22 e22 q22 p22 => ?_)
    refine W.r ?_
    refine WL.a (some 14) t0 h_5 ?_
    replace hF := obind_some hF; obtain ⟨t15, e23, hF⟩ := hF
    refine WL.b (some 15) t15 h_5 (nil_chk (h := h_5) e23) ?_
    replace hF := obind_some hF; obtain ⟨t16, e24, hF⟩ := hF
    refine WL.b (some 16) t16 h_5 (field_ptr (P := Try.prog) (h := h_5) (s := 53) (f := 0) (by kernel_rfl) e24) ?_
    replace hF := obind_some hF; obtain ⟨v17, e25, hF⟩ := hF
    refine WL.b (some 17) v17 h_5 (load_cell (P := Try.prog) (h := h_5) (t := 51) (by kernel_rfl) e25) ?_
    refine WL.a (some 18) t0 h_5 ?_
    replace hF := outK_some hF; obtain ⟨v19, h_26, e27, hF⟩ := hF
    replace hF := obind_some hF; obtain ⟨t19, c28, hF⟩ := hF
    have c28 := avBool_some c28
    subst c28
    refine WL.b (some 19) (.bool t19) h_26 e27 ?_
    refine WL.n ?_
    refine Go.weaken (l' := [(19, .bool t19)]) (Fr.c Fr.n) ?_
    refine n22 ?_
    cases t19 with
    | true =>
      replace hF := ifB_t hF
      refine W.t ?_
      cases hF
    | false =>
      replace hF := ifB_f hF
      refine W.f ?_
      refine W.skip (by kernel_rfl) ?_
      exact Go.weaken Fr.n (J8 _ hF)
noncomputable def strings_Builder_copyCheck_fn (call : CallF) (n : Nat) : FnT := fun args h => match args with
  | [x0] => strings_Builder_copyCheck call n x0 h
  | _ => none
set_option maxRecDepth 100000 in
theorem strings_Builder_copyCheck_fn_eq (call : CallF) (n : Nat) (t0 : AV) (h : AHeap) : strings_Builder_copyCheck_fn call n [t0] h = strings_Builder_copyCheck call n t0 h :=
  rfl
theorem strings_Builder_copyCheck_holds {call : CallF} (hc : SaysAll Try.prog call) (n : Nat) : Holds Try.prog 43 (strings_Builder_copyCheck_fn call n) := by
  intro args h r h2 e
  unfold strings_Builder_copyCheck_fn at e
  split at e
  · exact strings_Builder_copyCheck_ok hc e
  · cases e

end Go.Proofs.Ytmibgiblejpgdaa
