/- Plain functions in place of the program's, and that their calls come to what they say. -/
import Derived.Test.YteibdplpbcobbaaFrame
import Derived.Test.YteibdplpbcobbaaAbs50
namespace Go.Proofs.Yteibdplpbcobbaa
open Go.RowKit Abs

noncomputable def law09_PatternUnquotes (call : CallF) (_ : Nat) (t0 : Bytes) (h : AHeap) : R :=
  callN (call 13 [] h) fun r7 h_4 =>
  obind (avBool r7) fun t7 =>
  lett (!t7) fun (t8 : Bool) =>
  ifB t8
  (
    some (.ret (.bool false), h_4))
  (
    callN (call 14 [.int .i64 (lenS t0)] h_4) fun r11 h_11 =>
    obind (avBool r11) fun t11 =>
    ifB t11
    (
      some (.ret (.bool true), h_11))
    (
      callN (call 16 [strA t0] h_11) fun r14 h_16 =>
      obind (extT 0 r14) fun v15 =>
      obind (avStr v15) fun t15 =>
      obind (extT 1 r14) fun v16 =>
      obind (avAgg v16) fun t16 =>
      lett (newH h_16 27 [.int .i64 0, .int .i64 0]) fun h_22 =>
      obind (stRow h_22 2 t16 (newP h_16)) fun h_24 =>
      callN (call 18 [strA t0] h_24) fun r19 h_27 =>
      obind (extT 0 r19) fun v20 =>
      obind (avStr v20) fun t20 =>
      obind (extT 1 r19) fun v21 =>
      obind (avAgg v21) fun t21 =>
      lett (newH h_27 27 [.int .i64 0, .int .i64 0]) fun h_33 =>
      obind (stRow h_33 2 t21 (newP h_27)) fun h_35 =>
      lett (eqS t15 t20) fun (t24 : Bool) =>
      lett (fun (t29 : Bool) (h_39 : AHeap) =>
        some (.ret (.bool t29), h_39)) fun j29 =>
      ifB t24
      (
        obind (ldRow h_35 2 (newP h_16)) fun t26 =>
        obind (ldRow h_35 2 (newP h_27)) fun t27 =>
        obind (eqOther Try.prog 27 (.agg t26) (.agg t27)) fun t28 =>
        j29 t28 h_35)
      (
        j29 false h_35)))
set_option maxHeartbeats 4000000 in
set_option maxRecDepth 20000 in
theorem law09_PatternUnquotes_ok {call : CallF} (hc : SaysAll Try.prog call) {n : Nat} {t0 : Bytes} {h : AHeap} {rR : ARes} {hR : AHeap} (hF : law09_PatternUnquotes call n t0 h = some (rR, hR)) : Says Try.prog 4 [strA t0] h rR hR := by
  unfold law09_PatternUnquotes at hF
  refine says_of (fn := Try.f4) Try.func4 (c := codeOf Try.f4) (by kernel_rfl) (by kernel_rfl) (fun w0 m0 => ?_)
  refine W.weaken (l' := [(0, strA t0)]) (Fr.c Fr.n) ?_
  refine W.s (fun K1 n1 e1 q1 p1 => ?_)
  refine W.r ?_
  refine WL.a (some 2) (.bool false) h ?_
  refine WL.n ?_
  refine Go.weaken (l' := [(0, strA t0)]) (Fr.c Fr.n) ?_
  refine n1 ?_
  refine W.s (fun K2 n2 e2 q2 p2 => ?_)
  refine W.s (fun K3 n3 e3 q3 p3 => ?_)
  refine W.r ?_
  replace hF := callN_some hF; obtain ⟨r7, h_4, e5, hF⟩ := hF
  replace hF := obind_some hF; obtain ⟨t7, c6, hF⟩ := hF
  have c6 := avBool_some c6
  subst c6
  refine WL.c (hc.ok w0) (some 7) e5 ?_
  replace hF := lett_some hF; obtain ⟨t8, e7, hF⟩ := hF
  refine WL.val (d := (some 8)) (v := .bool t8) (h' := h_4) (by kernel_rfl) (by kernel_rfl) (val_of AV.bool e7 (by kernel_rfl)) ?_
  refine WL.n ?_
  refine Go.weaken (l' := [(0, strA t0), (8, .bool t8)]) (Fr.c (Fr.c Fr.n)) ?_
  refine n3 ?_
  cases t8 with
  | true =>
    replace hF := ifB_t hF
    refine W.t ?_
    refine W.s (fun K8 n8 e8 q8 p8 => ?_)
    refine W.r ?_
    refine WL.a (some 2) (.bool false) h_4 ?_
    refine WL.n ?_
    refine Go.weaken (l' := [(2, .bool false)]) (Fr.c Fr.n) ?_
    refine n8 ?_
    refine W.ret (by kernel_rfl) ?_
    refine q2 ?_
    obtain ⟨hF, hF2⟩ := ret_inj hF; subst hF; subst hF2
    exact leave_of (rs := [.tmp 2]) (vs := [.bool false]) (by kernel_rfl) (res_tmp (by kernel_rfl) res_nil) (by kernel_rfl)
  | false =>
    replace hF := ifB_f hF
    refine W.f ?_
    refine W.skip (by kernel_rfl) ?_
    refine n2 ?_
    refine W.s (fun K9 n9 e9 q9 p9 => ?_)
    refine W.s (fun K10 n10 e10 q10 p10 => ?_)
    refine W.r ?_
    refine WL.a (some 9) (strA t0) h_4 ?_
    refine WL.a (some 10) (.int .i64 (lenS t0)) h_4 ?_
    replace hF := callN_some hF; obtain ⟨r11, h_11, e12, hF⟩ := hF
    replace hF := obind_some hF; obtain ⟨t11, c13, hF⟩ := hF
    have c13 := avBool_some c13
    subst c13
    refine WL.c (hc.ok w0) (some 11) e12 ?_
    refine WL.n ?_
    refine Go.weaken (l' := [(0, strA t0), (11, .bool t11)]) (Fr.c (Fr.c Fr.n)) ?_
    refine n10 ?_
    cases t11 with
    | true =>
      replace hF := ifB_t hF
      refine W.t ?_
      refine W.s (fun K14 n14 e14 q14 p14 => ?_)
      refine W.r ?_
      refine WL.a (some 2) (.bool true) h_11 ?_
      refine WL.n ?_
      refine Go.weaken (l' := [(2, .bool true)]) (Fr.c Fr.n) ?_
      refine n14 ?_
      refine W.ret (by kernel_rfl) ?_
      refine q9 ?_
      obtain ⟨hF, hF2⟩ := ret_inj hF; subst hF; subst hF2
      exact leave_of (rs := [.tmp 2]) (vs := [.bool true]) (by kernel_rfl) (res_tmp (by kernel_rfl) res_nil) (by kernel_rfl)
    | false =>
      replace hF := ifB_f hF
      refine W.f ?_
      refine W.skip (by kernel_rfl) ?_
      refine n9 ?_
      refine W.s (fun K15 n15 e15 q15 p15 => ?_)
      refine W.r ?_
      refine WL.a (some 13) (strA t0) h_11 ?_
      replace hF := callN_some hF; obtain ⟨r14, h_16, e17, hF⟩ := hF
      refine WL.c (hc.ok w0) (some 14) e17 ?_
      refine WL.a (some 12) r14 h_16 ?_
      replace hF := obind_some hF; obtain ⟨v15, e18, hF⟩ := hF
      replace hF := obind_some hF; obtain ⟨t15, c19, hF⟩ := hF
      have c19 := avStr_some c19
      subst c19
      refine WL.b (some 15) (strA t15) h_16 (extract_tup (h := h_16) e18) ?_
      replace hF := obind_some hF; obtain ⟨v16, e20, hF⟩ := hF
      replace hF := obind_some hF; obtain ⟨t16, c21, hF⟩ := hF
      have c21 := avAgg_some c21
      subst c21
      refine WL.b (some 16) (.agg t16) h_16 (extract_tup (h := h_16) e20) ?_
      replace hF := lett_some hF; obtain ⟨h_22, e23, hF⟩ := hF
      refine WL.val (d := (some 4)) (v := (newP h_16)) (h' := h_22) (by kernel_rfl) (by kernel_rfl) (val_ofH e23 (by kernel_rfl)) ?_
      refine WL.a (some 3) (strA t15) h_22 ?_
      replace hF := obind_some hF; obtain ⟨h_24, e25, hF⟩ := hF
      refine WL.e h_24 (store_row (P := Try.prog) (h := h_22) (t := 27) (v := (.agg t16)) (by kernel_rfl) (by kernel_rfl) e25) ?_
      refine WL.n ?_
      refine Go.weaken (l' := [(0, strA t0), (3, strA t15), (4, (newP h_16))]) (Fr.c (Fr.c (Fr.c Fr.n))) ?_
      refine n15 ?_
      refine W.s (fun K26 n26 e26 q26 p26 => ?_)
      refine W.r ?_
      refine WL.a (some 18) (strA t0) h_24 ?_
      replace hF := callN_some hF; obtain ⟨r19, h_27, e28, hF⟩ := hF
      refine WL.c (hc.ok w0) (some 19) e28 ?_
      refine WL.a (some 17) r19 h_27 ?_
      replace hF := obind_some hF; obtain ⟨v20, e29, hF⟩ := hF
      replace hF := obind_some hF; obtain ⟨t20, c30, hF⟩ := hF
      have c30 := avStr_some c30
      subst c30
      refine WL.b (some 20) (strA t20) h_27 (extract_tup (h := h_27) e29) ?_
      replace hF := obind_some hF; obtain ⟨v21, e31, hF⟩ := hF
      replace hF := obind_some hF; obtain ⟨t21, c32, hF⟩ := hF
      have c32 := avAgg_some c32
      subst c32
      refine WL.b (some 21) (.agg t21) h_27 (extract_tup (h := h_27) e31) ?_
      replace hF := lett_some hF; obtain ⟨h_33, e34, hF⟩ := hF
      refine WL.val (d := (some 6)) (v := (newP h_27)) (h' := h_33) (by kernel_rfl) (by kernel_rfl) (val_ofH e34 (by kernel_rfl)) ?_
      refine WL.a (some 5) (strA t20) h_33 ?_
      replace hF := obind_some hF; obtain ⟨h_35, e36, hF⟩ := hF
      refine WL.e h_35 (store_row (P := Try.prog) (h := h_33) (t := 27) (v := (.agg t21)) (by kernel_rfl) (by kernel_rfl) e36) ?_
      refine WL.n ?_
      refine Go.weaken (l' := [(3, strA t15), (4, (newP h_16)), (5, strA t20), (6, (newP h_27))]) (Fr.c (Fr.c (Fr.c (Fr.c Fr.n)))) ?_
      refine n26 ?_
      refine W.s (fun K37 n37 e37 q37 p37 => ?_)
      refine W.r ?_
      refine WL.a (some 22) (strA t15) h_35 ?_
      refine WL.a (some 23) (strA t20) h_35 ?_
      replace hF := lett_some hF; obtain ⟨t24, e38, hF⟩ := hF
      refine WL.val (d := (some 24)) (v := .bool t24) (h' := h_35) (by kernel_rfl) (by kernel_rfl) (val_of AV.bool e38 (by kernel_rfl)) ?_
      refine WL.a (some 25) (.bool t24) h_35 ?_
      replace hF := lett_some hF; obtain ⟨j29, e40, hF⟩ := hF
      have J41 : ∀ (t29 : Bool) (h_39 : AHeap), j29 t29 h_39 = some (rR, hR) → WL Try.prog w0 m0 (Func.ntmps Try.f4) (Code.ops (Code.p1 (Code.p2 (Code.p2 (Code.p2 (Code.p2 (Code.p2 (codeOf Try.f4)))))))) 8 K37 [(29, .bool t29)] [] h_39 := by
        intro t29 h_39 hF
        rw [e40] at hF
        refine WL.a (some 2) (.bool t29) h_39 ?_
        refine WL.n ?_
        refine Go.weaken (l' := [(2, .bool t29)]) (Fr.c Fr.n) ?_
        refine n37 ?_
        refine W.ret (by kernel_rfl) ?_
        obtain ⟨hF, hF2⟩ := ret_inj hF; subst hF; subst hF2
        exact leave_of (rs := [.tmp 2]) (vs := [.bool t29]) (by kernel_rfl) (res_tmp (by kernel_rfl) res_nil) (by kernel_rfl)
      cases t24 with
      | true =>
        replace hF := ifB_t hF
        replace hF := obind_some hF; obtain ⟨t26, e42, hF⟩ := hF
        refine WL.b (some 26) (.agg t26) h_35 (load_row (P := Try.prog) (h := h_35) (t := 27) (by kernel_rfl) (by kernel_rfl) e42) ?_
        replace hF := obind_some hF; obtain ⟨t27, e43, hF⟩ := hF
        refine WL.b (some 27) (.agg t27) h_35 (load_row (P := Try.prog) (h := h_35) (t := 27) (by kernel_rfl) (by kernel_rfl) e43) ?_
        replace hF := obind_some hF; obtain ⟨t28, e44, hF⟩ := hF
        refine WL.b (some 28) (.bool t28) h_35 (eq_other (P := Try.prog) (h := h_35) (t := 27) (lit := false) (by kernel_rfl) e44) ?_
        refine WL.a (some 29) (.bool t28) h_35 ?_
        exact WL.weaken (Fr.c Fr.n) (J41 _ _ hF)
      | false =>
        replace hF := ifB_f hF
        refine WL.o (some 26) ?_
        refine WL.o (some 27) ?_
        refine WL.o (some 28) ?_
        refine WL.a (some 29) (.bool false) h_35 ?_
        exact WL.weaken (Fr.c Fr.n) (J41 _ _ hF)
noncomputable def law09_PatternUnquotes_fn (call : CallF) (n : Nat) : FnT := fun args h => match args with
  | [x0] => obind (avStr x0) fun t0 => law09_PatternUnquotes call n t0 h
  | _ => none
set_option maxRecDepth 100000 in
theorem law09_PatternUnquotes_fn_eq (call : CallF) (n : Nat) (t0 : Bytes) (h : AHeap) : law09_PatternUnquotes_fn call n [strA t0] h = law09_PatternUnquotes call n t0 h :=
  (Eq.trans (obind_eq (fun t0 => law09_PatternUnquotes call n t0 h) (avStr_str t0)) rfl)
theorem law09_PatternUnquotes_holds {call : CallF} (hc : SaysAll Try.prog call) (n : Nat) : Holds Try.prog 4 (law09_PatternUnquotes_fn call n) := by
  intro args h r h2 e
  unfold law09_PatternUnquotes_fn at e
  split at e
  · replace e := obind_some e; obtain ⟨t0, c0, e⟩ := e; have c0 := avStr_some c0; subst c0
    exact law09_PatternUnquotes_ok hc e
  · cases e

noncomputable def law09_PatternBegins (call : CallF) (_ : Nat) (t0 : Bytes) (t1 : Int) (h : AHeap) : R :=
  callN (call 13 [] h) fun r13 h_4 =>
  obind (avBool r13) fun t13 =>
  lett (!t13) fun (t14 : Bool) =>
  ifB t14
  (
    some (.ret (.bool false), h_4))
  (
    callN (call 14 [.int .i64 (lenS t0)] h_4) fun r17 h_11 =>
    obind (avBool r17) fun t17 =>
    ifB t17
    (
      some (.ret (.bool true), h_11))
    (
      callN (call 19 [strA t0, .int .i64 t1] h_11) fun r21 h_16 =>
      obind (extT 0 r21) fun v22 =>
      obind (avStr v22) fun t22 =>
      obind (extT 1 r21) fun v23 =>
      obind (avInt .i64 v23) fun t23 =>
      obind (extT 2 r21) fun v24 =>
      obind (avAgg v24) fun t24 =>
      lett (newH h_16 27 [.int .i64 0, .int .i64 0]) fun h_24 =>
      obind (stRow h_24 2 t24 (newP h_16)) fun h_26 =>
      callN (call 20 [strA t0, .int .i64 t1] h_26) fun r28 h_29 =>
      obind (extT 0 r28) fun v29 =>
      obind (avStr v29) fun t29 =>
      obind (extT 1 r28) fun v30 =>
      obind (avInt .i64 v30) fun t30 =>
      obind (extT 2 r28) fun v31 =>
      obind (avAgg v31) fun t31 =>
      lett (newH h_29 27 [.int .i64 0, .int .i64 0]) fun h_37 =>
      obind (stRow h_37 2 t31 (newP h_29)) fun h_39 =>
      lett (!eqS t22 t29) fun (t34 : Bool) =>
      lett (fun (t39 : Bool) (h_44 : AHeap) =>
        lett (fun (t44 : Bool) (h_47 : AHeap) =>
          ifB t44
          (
            some (.ret (.bool false), h_47))
          (
            obind (ldCell h_47 (AV.ptr (AHeap.next h_16) 0)) fun v46 =>
            obind (avInt .i64 v46) fun t46 =>
            lett ((t46 : Int) != 0) fun (t47 : Bool) =>
            ifB t47
            (
              lett ((t23 : Int) == 0) fun (t49 : Bool) =>
              lett (fun (t53 : Bool) (h_58 : AHeap) =>
                some (.ret (.bool t53), h_58)) fun j53 =>
              ifB t49
              (
                lett (eqS t22 ([] : Bytes)) fun (t52 : Bool) =>
                j53 t52 h_47)
              (
                j53 false h_47))
            (
              lett (decide (t23 < 2)) fun (t55 : Bool) =>
              lett (fun (t61 : Bool) (h_65 : AHeap) =>
                lett (fun (t71 : Bool) (h_68 : AHeap) =>
                  ifB t71
                  (
                    some (.ret (.bool false), h_68))
                  (
                    obind (sliceS t0 0 t23) fun t75 =>
                    callN (call 16 [strA t75] h_68) fun r76 h_74 =>
                    obind (extT 0 r76) fun v77 =>
                    obind (avStr v77) fun t77 =>
                    obind (extT 1 r76) fun v78 =>
                    obind (avAgg v78) fun t78 =>
                    lett (newH h_74 27 [.int .i64 0, .int .i64 0]) fun h_80 =>
                    obind (stRow h_80 2 t78 (newP h_74)) fun h_82 =>
                    lett (eqS t77 t22) fun (t81 : Bool) =>
                    lett (fun (t86 : Bool) (h_86 : AHeap) =>
                      some (.ret (.bool t86), h_86)) fun j86 =>
                    ifB t81
                    (
                      obind (ldRow h_82 2 (newP h_74)) fun t83 =>
                      obind (eqOther Try.prog 27 (.agg t83) (.agg ([.int .i64 0, .int .i64 0] : List AV))) fun t85 =>
                      j86 t85 h_82)
                    (
                      j86 false h_82))) fun j71 =>
                ifB t61
                (
                  j71 true h_65)
                (
                  lett (decide (t1 ≥ 0)) fun (t64 : Bool) =>
                  lett (fun (t70 : Bool) (h_92 : AHeap) =>
                    j71 t70 h_92) fun j70 =>
                  ifB t64
                  (
                    lett (decide ((lenS t22) > t1)) fun (t69 : Bool) =>
                    j70 t69 h_65)
                  (
                    j70 false h_65))) fun j61 =>
              ifB t55
              (
                j61 true h_47)
              (
                lett (decide (t23 > (lenS t0))) fun (t60 : Bool) =>
                j61 t60 h_47)))) fun j44 =>
        ifB t39
        (
          j44 true h_44)
        (
          obind (ldRow h_44 2 (newP h_16)) fun t41 =>
          obind (ldRow h_44 2 (newP h_29)) fun t42 =>
          obind (eqOther Try.prog 27 (.agg t41) (.agg t42)) fun t43 =>
          lett (!t43) fun (t43_100 : Bool) =>
          j44 t43_100 h_44)) fun j39 =>
      ifB t34
      (
        j39 true h_39)
      (
        lett ((t23 : Int) != t30) fun (t38 : Bool) =>
        j39 t38 h_39)))
set_option maxHeartbeats 4000000 in
set_option maxRecDepth 20000 in
theorem law09_PatternBegins_ok {call : CallF} (hc : SaysAll Try.prog call) {n : Nat} {t0 : Bytes} {t1 : Int} {h : AHeap} {rR : ARes} {hR : AHeap} (hF : law09_PatternBegins call n t0 t1 h = some (rR, hR)) : Says Try.prog 5 [strA t0, .int .i64 t1] h rR hR := by
  unfold law09_PatternBegins at hF
  refine says_of (fn := Try.f5) Try.func5 (c := codeOf Try.f5) (by kernel_rfl) (by kernel_rfl) (fun w0 m0 => ?_)
  refine W.weaken (l' := [(0, strA t0), (1, .int .i64 t1)]) (Fr.c (Fr.c Fr.n)) ?_
  refine W.s (fun K1 n1 e1 q1 p1 => ?_)
  refine W.r ?_
  refine WL.a (some 4) (.bool false) h ?_
  refine WL.n ?_
  refine Go.weaken (l' := [(0, strA t0), (1, .int .i64 t1)]) (Fr.c (Fr.c Fr.n)) ?_
  refine n1 ?_
  refine W.s (fun K2 n2 e2 q2 p2 => ?_)
  refine W.s (fun K3 n3 e3 q3 p3 => ?_)
  refine W.r ?_
  replace hF := callN_some hF; obtain ⟨r13, h_4, e5, hF⟩ := hF
  replace hF := obind_some hF; obtain ⟨t13, c6, hF⟩ := hF
  have c6 := avBool_some c6
  subst c6
  refine WL.c (hc.ok w0) (some 13) e5 ?_
  replace hF := lett_some hF; obtain ⟨t14, e7, hF⟩ := hF
  refine WL.val (d := (some 14)) (v := .bool t14) (h' := h_4) (by kernel_rfl) (by kernel_rfl) (val_of AV.bool e7 (by kernel_rfl)) ?_
  refine WL.n ?_
  refine Go.weaken (l' := [(0, strA t0), (1, .int .i64 t1), (14, .bool t14)]) (Fr.c (Fr.c (Fr.c Fr.n))) ?_
  refine n3 ?_
  cases t14 with
  | true =>
    replace hF := ifB_t hF
    refine W.t ?_
    refine W.s (fun K8 n8 e8 q8 p8 => ?_)
    refine W.r ?_
    refine WL.a (some 4) (.bool false) h_4 ?_
    refine WL.n ?_
    refine Go.weaken (l' := [(4, .bool false)]) (Fr.c Fr.n) ?_
    refine n8 ?_
    refine W.ret (by kernel_rfl) ?_
    refine q2 ?_
    obtain ⟨hF, hF2⟩ := ret_inj hF; subst hF; subst hF2
    exact leave_of (rs := [.tmp 4]) (vs := [.bool false]) (by kernel_rfl) (res_tmp (by kernel_rfl) res_nil) (by kernel_rfl)
  | false =>
    replace hF := ifB_f hF
    refine W.f ?_
    refine W.skip (by kernel_rfl) ?_
    refine n2 ?_
    refine W.s (fun K9 n9 e9 q9 p9 => ?_)
    refine W.s (fun K10 n10 e10 q10 p10 => ?_)
    refine W.r ?_
    refine WL.a (some 15) (strA t0) h_4 ?_
    refine WL.a (some 16) (.int .i64 (lenS t0)) h_4 ?_
    replace hF := callN_some hF; obtain ⟨r17, h_11, e12, hF⟩ := hF
    replace hF := obind_some hF; obtain ⟨t17, c13, hF⟩ := hF
    have c13 := avBool_some c13
    subst c13
    refine WL.c (hc.ok w0) (some 17) e12 ?_
    refine WL.n ?_
    refine Go.weaken (l' := [(0, strA t0), (1, .int .i64 t1), (17, .bool t17)]) (Fr.c (Fr.c (Fr.c Fr.n))) ?_
    refine n10 ?_
    cases t17 with
    | true =>
      replace hF := ifB_t hF
      refine W.t ?_
      refine W.s (fun K14 n14 e14 q14 p14 => ?_)
      refine W.r ?_
      refine WL.a (some 4) (.bool true) h_11 ?_
      refine WL.n ?_
      refine Go.weaken (l' := [(4, .bool true)]) (Fr.c Fr.n) ?_
      refine n14 ?_
      refine W.ret (by kernel_rfl) ?_
      refine q9 ?_
      obtain ⟨hF, hF2⟩ := ret_inj hF; subst hF; subst hF2
      exact leave_of (rs := [.tmp 4]) (vs := [.bool true]) (by kernel_rfl) (res_tmp (by kernel_rfl) res_nil) (by kernel_rfl)
    | false =>
      replace hF := ifB_f hF
      refine W.f ?_
      refine W.skip (by kernel_rfl) ?_
      refine n9 ?_
      refine W.s (fun K15 n15 e15 q15 p15 => ?_)
      refine W.r ?_
      refine WL.a (some 19) (strA t0) h_11 ?_
      refine WL.a (some 20) (.int .i64 t1) h_11 ?_
      replace hF := callN_some hF; obtain ⟨r21, h_16, e17, hF⟩ := hF
      refine WL.c (hc.ok w0) (some 21) e17 ?_
      refine WL.a (some 18) r21 h_16 ?_
      replace hF := obind_some hF; obtain ⟨v22, e18, hF⟩ := hF
      replace hF := obind_some hF; obtain ⟨t22, c19, hF⟩ := hF
      have c19 := avStr_some c19
      subst c19
      refine WL.b (some 22) (strA t22) h_16 (extract_tup (h := h_16) e18) ?_
      replace hF := obind_some hF; obtain ⟨v23, e20, hF⟩ := hF
      replace hF := obind_some hF; obtain ⟨t23, c21, hF⟩ := hF
      have c21 := avInt_some c21
      subst c21
      refine WL.b (some 23) (.int .i64 t23) h_16 (extract_tup (h := h_16) e20) ?_
      replace hF := obind_some hF; obtain ⟨v24, e22, hF⟩ := hF
      replace hF := obind_some hF; obtain ⟨t24, c23, hF⟩ := hF
      have c23 := avAgg_some c23
      subst c23
      refine WL.b (some 24) (.agg t24) h_16 (extract_tup (h := h_16) e22) ?_
      replace hF := lett_some hF; obtain ⟨h_24, e25, hF⟩ := hF
      refine WL.val (d := (some 7)) (v := (newP h_16)) (h' := h_24) (by kernel_rfl) (by kernel_rfl) (val_ofH e25 (by kernel_rfl)) ?_
      refine WL.a (some 5) (strA t22) h_24 ?_
      refine WL.a (some 6) (.int .i64 t23) h_24 ?_
      replace hF := obind_some hF; obtain ⟨h_26, e27, hF⟩ := hF
      refine WL.e h_26 (store_row (P := Try.prog) (h := h_24) (t := 27) (v := (.agg t24)) (by kernel_rfl) (by kernel_rfl) e27) ?_
      refine WL.n ?_
      refine Go.weaken (l' := [(0, strA t0), (1, .int .i64 t1), (5, strA t22), (6, .int .i64 t23), (7, (newP h_16))]) (Fr.c (Fr.c (Fr.c (Fr.c (Fr.c Fr.n))))) ?_
      refine n15 ?_
      refine W.s (fun K28 n28 e28 q28 p28 => ?_)
      refine W.r ?_
      refine WL.a (some 26) (strA t0) h_26 ?_
      refine WL.a (some 27) (.int .i64 t1) h_26 ?_
      replace hF := callN_some hF; obtain ⟨r28, h_29, e30, hF⟩ := hF
      refine WL.c (hc.ok w0) (some 28) e30 ?_
      refine WL.a (some 25) r28 h_29 ?_
      replace hF := obind_some hF; obtain ⟨v29, e31, hF⟩ := hF
      replace hF := obind_some hF; obtain ⟨t29, c32, hF⟩ := hF
      have c32 := avStr_some c32
      subst c32
      refine WL.b (some 29) (strA t29) h_29 (extract_tup (h := h_29) e31) ?_
      replace hF := obind_some hF; obtain ⟨v30, e33, hF⟩ := hF
      replace hF := obind_some hF; obtain ⟨t30, c34, hF⟩ := hF
      have c34 := avInt_some c34
      subst c34
      refine WL.b (some 30) (.int .i64 t30) h_29 (extract_tup (h := h_29) e33) ?_
      replace hF := obind_some hF; obtain ⟨v31, e35, hF⟩ := hF
      replace hF := obind_some hF; obtain ⟨t31, c36, hF⟩ := hF
      have c36 := avAgg_some c36
      subst c36
      refine WL.b (some 31) (.agg t31) h_29 (extract_tup (h := h_29) e35) ?_
      replace hF := lett_some hF; obtain ⟨h_37, e38, hF⟩ := hF
      refine WL.val (d := (some 10)) (v := (newP h_29)) (h' := h_37) (by kernel_rfl) (by kernel_rfl) (val_ofH e38 (by kernel_rfl)) ?_
      refine WL.a (some 8) (strA t29) h_37 ?_
      refine WL.a (some 9) (.int .i64 t30) h_37 ?_
      replace hF := obind_some hF; obtain ⟨h_39, e40, hF⟩ := hF
      refine WL.e h_39 (store_row (P := Try.prog) (h := h_37) (t := 27) (v := (.agg t31)) (by kernel_rfl) (by kernel_rfl) e40) ?_
      refine WL.n ?_
      refine Go.weaken (l' := [(0, strA t0), (1, .int .i64 t1), (5, strA t22), (6, .int .i64 t23), (7, (newP h_16)), (8, strA t29), (9, .int .i64 t30), (10, (newP h_29))]) (Fr.c (Fr.c (Fr.c (Fr.c (Fr.c (Fr.c (Fr.c (Fr.c Fr.n)))))))) ?_
      refine n28 ?_
      refine W.s (fun K41 n41 e41 q41 p41 => ?_)
      refine W.s (fun K42 n42 e42 q42 p42 => ?_)
      refine W.r ?_
      refine WL.a (some 32) (strA t22) h_39 ?_
      refine WL.a (some 33) (strA t29) h_39 ?_
      replace hF := lett_some hF; obtain ⟨t34, e43, hF⟩ := hF
      refine WL.val (d := (some 34)) (v := .bool t34) (h' := h_39) (by kernel_rfl) (by kernel_rfl) (val_of AV.bool e43 (by kernel_rfl)) ?_
      refine WL.a (some 35) (.bool t34) h_39 ?_
      replace hF := lett_some hF; obtain ⟨j39, e45, hF⟩ := hF
      have J46 : ∀ (t39 : Bool) (h_44 : AHeap), j39 t39 h_44 = some (rR, hR) → WL Try.prog w0 m0 (Func.ntmps Try.f5) (Code.ops (Code.p1 (Code.p1 (Code.p2 (Code.p2 (Code.p2 (Code.p2 (Code.p2 (codeOf Try.f5))))))))) 8 K42 [(0, strA t0), (1, .int .i64 t1), (5, strA t22), (6, .int .i64 t23), (7, (newP h_16)), (10, (newP h_29)), (39, .bool t39)] [] h_44 := by
        intro t39 h_44 hF
        rw [e45] at hF
        refine WL.a (some 40) (.bool t39) h_44 ?_
        replace hF := lett_some hF; obtain ⟨j44, e48, hF⟩ := hF
        have J49 : ∀ (t44 : Bool) (h_47 : AHeap), j44 t44 h_47 = some (rR, hR) → WL Try.prog w0 m0 (Func.ntmps Try.f5) (Code.ops (Code.p1 (Code.p1 (Code.p2 (Code.p2 (Code.p2 (Code.p2 (Code.p2 (codeOf Try.f5))))))))) 13 K42 [(0, strA t0), (1, .int .i64 t1), (5, strA t22), (6, .int .i64 t23), (7, (newP h_16)), (44, .bool t44)] [] h_47 := by
          intro t44 h_47 hF
          rw [e48] at hF
          refine WL.n ?_
          refine Go.weaken (l' := [(0, strA t0), (1, .int .i64 t1), (5, strA t22), (6, .int .i64 t23), (7, (newP h_16)), (44, .bool t44)]) (Fr.c (Fr.c (Fr.c (Fr.c (Fr.c (Fr.c Fr.n)))))) ?_
          refine n42 ?_
          cases t44 with
          | true =>
            replace hF := ifB_t hF
            refine W.t ?_
            refine W.s (fun K50 n50 e50 q50 p50 => ?_)
            refine W.r ?_
            refine WL.a (some 4) (.bool false) h_47 ?_
            refine WL.n ?_
            refine Go.weaken (l' := [(4, .bool false)]) (Fr.c Fr.n) ?_
            refine n50 ?_
            refine W.ret (by kernel_rfl) ?_
            refine q41 ?_
            obtain ⟨hF, hF2⟩ := ret_inj hF; subst hF; subst hF2
            exact leave_of (rs := [.tmp 4]) (vs := [.bool false]) (by kernel_rfl) (res_tmp (by kernel_rfl) res_nil) (by kernel_rfl)
          | false =>
            replace hF := ifB_f hF
            refine W.f ?_
            refine W.skip (by kernel_rfl) ?_
            refine n41 ?_
            refine W.s (fun K51 n51 e51 q51 p51 => ?_)
            refine W.s (fun K52 n52 e52 q52 p52 => ?_)
            refine W.r ?_
            refine WL.a (some 45) (AV.ptr (AHeap.next h_16) 0) h_47 ?_
            replace hF := obind_some hF; obtain ⟨v46, e53, hF⟩ := hF
            replace hF := obind_some hF; obtain ⟨t46, c54, hF⟩ := hF
            have c54 := avInt_some c54
            subst c54
            refine WL.b (some 46) (.int .i64 t46) h_47 (load_cell (P := Try.prog) (h := h_47) (t := 25) (by kernel_rfl) e53) ?_
            replace hF := lett_some hF; obtain ⟨t47, e55, hF⟩ := hF
            refine WL.val (d := (some 47)) (v := .bool t47) (h' := h_47) (by kernel_rfl) (by kernel_rfl) (val_of AV.bool e55 (by kernel_rfl)) ?_
            refine WL.n ?_
            refine Go.weaken (l' := [(0, strA t0), (1, .int .i64 t1), (5, strA t22), (6, .int .i64 t23), (47, .bool t47)]) (Fr.c (Fr.c (Fr.c (Fr.c (Fr.c Fr.n))))) ?_
            refine n52 ?_
            cases t47 with
            | true =>
              replace hF := ifB_t hF
              refine W.t ?_
              refine W.s (fun K56 n56 e56 q56 p56 => ?_)
              refine W.r ?_
              refine WL.a (some 48) (.int .i64 t23) h_47 ?_
              replace hF := lett_some hF; obtain ⟨t49, e57, hF⟩ := hF
              refine WL.val (d := (some 49)) (v := .bool t49) (h' := h_47) (by kernel_rfl) (by kernel_rfl) (val_of AV.bool e57 (by kernel_rfl)) ?_
              refine WL.a (some 50) (.bool t49) h_47 ?_
              replace hF := lett_some hF; obtain ⟨j53, e59, hF⟩ := hF
              have J60 : ∀ (t53 : Bool) (h_58 : AHeap), j53 t53 h_58 = some (rR, hR) → WL Try.prog w0 m0 (Func.ntmps Try.f5) (Code.ops (Code.p1 (Code.p1 (Code.p2 (Code.p1 (Code.p2 (Code.p2 (Code.p2 (Code.p2 (Code.p2 (Code.p2 (codeOf Try.f5)))))))))))) 6 K56 [(53, .bool t53)] [] h_58 := by
                intro t53 h_58 hF
                rw [e59] at hF
                refine WL.a (some 4) (.bool t53) h_58 ?_
                refine WL.n ?_
                refine Go.weaken (l' := [(4, .bool t53)]) (Fr.c Fr.n) ?_
                refine n56 ?_
                refine W.ret (by kernel_rfl) ?_
                refine q51 ?_
                obtain ⟨hF, hF2⟩ := ret_inj hF; subst hF; subst hF2
                exact leave_of (rs := [.tmp 4]) (vs := [.bool t53]) (by kernel_rfl) (res_tmp (by kernel_rfl) res_nil) (by kernel_rfl)
              cases t49 with
              | true =>
                replace hF := ifB_t hF
                refine WL.a (some 51) (strA t22) h_47 ?_
                replace hF := lett_some hF; obtain ⟨t52, e61, hF⟩ := hF
                refine WL.val (d := (some 52)) (v := .bool t52) (h' := h_47) (by kernel_rfl) (by kernel_rfl) (val_of AV.bool e61 (by kernel_rfl)) ?_
                refine WL.a (some 53) (.bool t52) h_47 ?_
                exact WL.weaken (Fr.c Fr.n) (J60 _ _ hF)
              | false =>
                replace hF := ifB_f hF
                refine WL.o (some 51) ?_
                refine WL.o (some 52) ?_
                refine WL.a (some 53) (.bool false) h_47 ?_
                exact WL.weaken (Fr.c Fr.n) (J60 _ _ hF)
            | false =>
              replace hF := ifB_f hF
              refine W.f ?_
              refine W.skip (by kernel_rfl) ?_
              refine n51 ?_
              refine W.s (fun K62 n62 e62 q62 p62 => ?_)
              refine W.s (fun K63 n63 e63 q63 p63 => ?_)
              refine W.r ?_
              refine WL.a (some 54) (.int .i64 t23) h_47 ?_
              replace hF := lett_some hF; obtain ⟨t55, e64, hF⟩ := hF
              refine WL.val (d := (some 55)) (v := .bool t55) (h' := h_47) (by kernel_rfl) (by kernel_rfl) (val_of AV.bool e64 (by kernel_rfl)) ?_
              refine WL.a (some 56) (.bool t55) h_47 ?_
              replace hF := lett_some hF; obtain ⟨j61, e66, hF⟩ := hF
              have J67 : ∀ (t61 : Bool) (h_65 : AHeap), j61 t61 h_65 = some (rR, hR) → WL Try.prog w0 m0 (Func.ntmps Try.f5) (Code.ops (Code.p1 (Code.p1 (Code.p2 (Code.p2 (Code.p2 (Code.p2 (Code.p2 (Code.p2 (Code.p2 (codeOf Try.f5))))))))))) 8 K63 [(0, strA t0), (1, .int .i64 t1), (5, strA t22), (6, .int .i64 t23), (61, .bool t61)] [] h_65 := by
                intro t61 h_65 hF
                rw [e66] at hF
                refine WL.a (some 62) (.bool t61) h_65 ?_
                replace hF := lett_some hF; obtain ⟨j71, e69, hF⟩ := hF
                have J70 : ∀ (t71 : Bool) (h_68 : AHeap), j71 t71 h_68 = some (rR, hR) → WL Try.prog w0 m0 (Func.ntmps Try.f5) (Code.ops (Code.p1 (Code.p1 (Code.p2 (Code.p2 (Code.p2 (Code.p2 (Code.p2 (Code.p2 (Code.p2 (codeOf Try.f5))))))))))) 18 K63 [(0, strA t0), (5, strA t22), (6, .int .i64 t23), (71, .bool t71)] [] h_68 := by
                  intro t71 h_68 hF
                  rw [e69] at hF
                  refine WL.n ?_
                  refine Go.weaken (l' := [(0, strA t0), (5, strA t22), (6, .int .i64 t23), (71, .bool t71)]) (Fr.c (Fr.c (Fr.c (Fr.c Fr.n)))) ?_
                  refine n63 ?_
                  cases t71 with
                  | true =>
                    replace hF := ifB_t hF
                    refine W.t ?_
                    refine W.s (fun K71 n71 e71 q71 p71 => ?_)
                    refine W.r ?_
                    refine WL.a (some 4) (.bool false) h_68 ?_
                    refine WL.n ?_
                    refine Go.weaken (l' := [(4, .bool false)]) (Fr.c Fr.n) ?_
                    refine n71 ?_
                    refine W.ret (by kernel_rfl) ?_
                    refine q62 ?_
                    obtain ⟨hF, hF2⟩ := ret_inj hF; subst hF; subst hF2
                    exact leave_of (rs := [.tmp 4]) (vs := [.bool false]) (by kernel_rfl) (res_tmp (by kernel_rfl) res_nil) (by kernel_rfl)
                  | false =>
                    replace hF := ifB_f hF
                    refine W.f ?_
                    refine W.skip (by kernel_rfl) ?_
                    refine n62 ?_
                    refine W.s (fun K72 n72 e72 q72 p72 => ?_)
                    refine W.r ?_
                    refine WL.a (some 73) (strA t0) h_68 ?_
                    refine WL.a (some 74) (.int .i64 t23) h_68 ?_
                    replace hF := obind_some hF; obtain ⟨t75, e73, hF⟩ := hF
                    refine WL.b (some 75) (strA t75) h_68 (slice_str (P := Try.prog) (h := h_68) (t := 9) (A := none) (B := (some (.int .i64 t23))) (by kernel_rfl) (.inr ⟨rfl, rfl⟩) (.inl ⟨_, rfl⟩) e73) ?_
                    replace hF := callN_some hF; obtain ⟨r76, h_74, e75, hF⟩ := hF
                    refine WL.c (hc.ok w0) (some 76) e75 ?_
                    refine WL.a (some 72) r76 h_74 ?_
                    replace hF := obind_some hF; obtain ⟨v77, e76, hF⟩ := hF
                    replace hF := obind_some hF; obtain ⟨t77, c77, hF⟩ := hF
                    have c77 := avStr_some c77
                    subst c77
                    refine WL.b (some 77) (strA t77) h_74 (extract_tup (h := h_74) e76) ?_
                    replace hF := obind_some hF; obtain ⟨v78, e78, hF⟩ := hF
                    replace hF := obind_some hF; obtain ⟨t78, c79, hF⟩ := hF
                    have c79 := avAgg_some c79
                    subst c79
                    refine WL.b (some 78) (.agg t78) h_74 (extract_tup (h := h_74) e78) ?_
                    replace hF := lett_some hF; obtain ⟨h_80, e81, hF⟩ := hF
                    refine WL.val (d := (some 12)) (v := (newP h_74)) (h' := h_80) (by kernel_rfl) (by kernel_rfl) (val_ofH e81 (by kernel_rfl)) ?_
                    refine WL.a (some 11) (strA t77) h_80 ?_
                    replace hF := obind_some hF; obtain ⟨h_82, e83, hF⟩ := hF
                    refine WL.e h_82 (store_row (P := Try.prog) (h := h_80) (t := 27) (v := (.agg t78)) (by kernel_rfl) (by kernel_rfl) e83) ?_
                    refine WL.n ?_
                    refine Go.weaken (l' := [(5, strA t22), (11, strA t77), (12, (newP h_74))]) (Fr.c (Fr.c (Fr.c Fr.n))) ?_
                    refine n72 ?_
                    refine W.s (fun K84 n84 e84 q84 p84 => ?_)
                    refine W.r ?_
                    refine WL.a (some 79) (strA t77) h_82 ?_
                    refine WL.a (some 80) (strA t22) h_82 ?_
                    replace hF := lett_some hF; obtain ⟨t81, e85, hF⟩ := hF
                    refine WL.val (d := (some 81)) (v := .bool t81) (h' := h_82) (by kernel_rfl) (by kernel_rfl) (val_of AV.bool e85 (by kernel_rfl)) ?_
                    refine WL.a (some 82) (.bool t81) h_82 ?_
                    replace hF := lett_some hF; obtain ⟨j86, e87, hF⟩ := hF
                    have J88 : ∀ (t86 : Bool) (h_86 : AHeap), j86 t86 h_86 = some (rR, hR) → WL Try.prog w0 m0 (Func.ntmps Try.f5) (Code.ops (Code.p1 (Code.p2 (Code.p2 (Code.p2 (Code.p2 (Code.p2 (Code.p2 (Code.p2 (Code.p2 (Code.p2 (codeOf Try.f5)))))))))))) 8 K84 [(86, .bool t86)] [] h_86 := by
                      intro t86 h_86 hF
                      rw [e87] at hF
                      refine WL.a (some 4) (.bool t86) h_86 ?_
                      refine WL.n ?_
                      refine Go.weaken (l' := [(4, .bool t86)]) (Fr.c Fr.n) ?_
                      refine n84 ?_
                      refine W.ret (by kernel_rfl) ?_
                      obtain ⟨hF, hF2⟩ := ret_inj hF; subst hF; subst hF2
                      exact leave_of (rs := [.tmp 4]) (vs := [.bool t86]) (by kernel_rfl) (res_tmp (by kernel_rfl) res_nil) (by kernel_rfl)
                    cases t81 with
                    | true =>
                      replace hF := ifB_t hF
                      replace hF := obind_some hF; obtain ⟨t83, e89, hF⟩ := hF
                      refine WL.b (some 83) (.agg t83) h_82 (load_row (P := Try.prog) (h := h_82) (t := 27) (by kernel_rfl) (by kernel_rfl) e89) ?_
                      refine WL.a (some 84) (.agg ([.int .i64 0, .int .i64 0] : List AV)) h_82 ?_
                      replace hF := obind_some hF; obtain ⟨t85, e90, hF⟩ := hF
                      refine WL.b (some 85) (.bool t85) h_82 (eq_other (P := Try.prog) (h := h_82) (t := 27) (lit := false) (by kernel_rfl) e90) ?_
                      refine WL.a (some 86) (.bool t85) h_82 ?_
                      exact WL.weaken (Fr.c Fr.n) (J88 _ _ hF)
                    | false =>
                      replace hF := ifB_f hF
                      refine WL.o (some 83) ?_
                      refine WL.o (some 84) ?_
                      refine WL.o (some 85) ?_
                      refine WL.a (some 86) (.bool false) h_82 ?_
                      exact WL.weaken (Fr.c Fr.n) (J88 _ _ hF)
                cases t61 with
                | true =>
                  replace hF := ifB_t hF
                  refine WL.o (some 63) ?_
                  refine WL.o (some 64) ?_
                  refine WL.o (some 65) ?_
                  refine WL.o (some 66) ?_
                  refine WL.o (some 67) ?_
                  refine WL.o (some 68) ?_
                  refine WL.o (some 69) ?_
                  refine WL.o (some 70) ?_
                  refine WL.a (some 71) (.bool true) h_65 ?_
                  exact WL.weaken (Fr.c (Fr.c (Fr.c (Fr.c Fr.n)))) (J70 _ _ hF)
                | false =>
                  replace hF := ifB_f hF
                  refine WL.a (some 63) (.int .i64 t1) h_65 ?_
                  replace hF := lett_some hF; obtain ⟨t64, e91, hF⟩ := hF
                  refine WL.val (d := (some 64)) (v := .bool t64) (h' := h_65) (by kernel_rfl) (by kernel_rfl) (val_of AV.bool e91 (by kernel_rfl)) ?_
                  refine WL.a (some 65) (.bool t64) h_65 ?_
                  replace hF := lett_some hF; obtain ⟨j70, e93, hF⟩ := hF
                  have J94 : ∀ (t70 : Bool) (h_92 : AHeap), j70 t70 h_92 = some (rR, hR) → WL Try.prog w0 m0 (Func.ntmps Try.f5) (Code.ops (Code.p1 (Code.p1 (Code.p2 (Code.p2 (Code.p2 (Code.p2 (Code.p2 (Code.p2 (Code.p2 (codeOf Try.f5))))))))))) 17 K63 [(0, strA t0), (5, strA t22), (6, .int .i64 t23), (62, .bool false), (70, .bool t70)] [] h_92 := by
                    intro t70 h_92 hF
                    rw [e93] at hF
                    refine WL.a (some 71) (.bool t70) h_92 ?_
                    exact WL.weaken (Fr.c (Fr.c (Fr.c (Fr.c Fr.n)))) (J70 _ _ hF)
                  cases t64 with
                  | true =>
                    replace hF := ifB_t hF
                    refine WL.a (some 66) (strA t22) h_65 ?_
                    refine WL.a (some 67) (.int .i64 (lenS t22)) h_65 ?_
                    refine WL.a (some 68) (.int .i64 t1) h_65 ?_
                    replace hF := lett_some hF; obtain ⟨t69, e95, hF⟩ := hF
                    refine WL.val (d := (some 69)) (v := .bool t69) (h' := h_65) (by kernel_rfl) (by kernel_rfl) (val_of AV.bool e95 (by kernel_rfl)) ?_
                    refine WL.a (some 70) (.bool t69) h_65 ?_
                    exact WL.weaken (Fr.c (Fr.c (Fr.c (Fr.c (Fr.c Fr.n))))) (J94 _ _ hF)
                  | false =>
                    replace hF := ifB_f hF
                    refine WL.o (some 66) ?_
                    refine WL.o (some 67) ?_
                    refine WL.o (some 68) ?_
                    refine WL.o (some 69) ?_
                    refine WL.a (some 70) (.bool false) h_65 ?_
                    exact WL.weaken (Fr.c (Fr.c (Fr.c (Fr.c (Fr.c Fr.n))))) (J94 _ _ hF)
              cases t55 with
              | true =>
                replace hF := ifB_t hF
                refine WL.o (some 57) ?_
                refine WL.o (some 58) ?_
                refine WL.o (some 59) ?_
                refine WL.o (some 60) ?_
                refine WL.a (some 61) (.bool true) h_47 ?_
                exact WL.weaken (Fr.c (Fr.c (Fr.c (Fr.c (Fr.c Fr.n))))) (J67 _ _ hF)
              | false =>
                replace hF := ifB_f hF
                refine WL.a (some 57) (.int .i64 t23) h_47 ?_
                refine WL.a (some 58) (strA t0) h_47 ?_
                refine WL.a (some 59) (.int .i64 (lenS t0)) h_47 ?_
                replace hF := lett_some hF; obtain ⟨t60, e96, hF⟩ := hF
                refine WL.val (d := (some 60)) (v := .bool t60) (h' := h_47) (by kernel_rfl) (by kernel_rfl) (val_of AV.bool e96 (by kernel_rfl)) ?_
                refine WL.a (some 61) (.bool t60) h_47 ?_
                exact WL.weaken (Fr.c (Fr.c (Fr.c (Fr.c (Fr.c Fr.n))))) (J67 _ _ hF)
        cases t39 with
        | true =>
          replace hF := ifB_t hF
          refine WL.o (some 41) ?_
          refine WL.o (some 42) ?_
          refine WL.o (some 43) ?_
          refine WL.a (some 44) (.bool true) h_44 ?_
          exact WL.weaken (Fr.c (Fr.c (Fr.c (Fr.c (Fr.c (Fr.c Fr.n)))))) (J49 _ _ hF)
        | false =>
          replace hF := ifB_f hF
          replace hF := obind_some hF; obtain ⟨t41, e97, hF⟩ := hF
          refine WL.b (some 41) (.agg t41) h_44 (load_row (P := Try.prog) (h := h_44) (t := 27) (by kernel_rfl) (by kernel_rfl) e97) ?_
          replace hF := obind_some hF; obtain ⟨t42, e98, hF⟩ := hF
          refine WL.b (some 42) (.agg t42) h_44 (load_row (P := Try.prog) (h := h_44) (t := 27) (by kernel_rfl) (by kernel_rfl) e98) ?_
          replace hF := obind_some hF; obtain ⟨t43, e99, hF⟩ := hF
          replace hF := lett_some hF; obtain ⟨t43_100, e101, hF⟩ := hF
          refine WL.val (d := (some 43)) (v := .bool t43_100) (h' := h_44) (by kernel_rfl) (by kernel_rfl) (val_of AV.bool e101 (Eq.trans (by kernel_rfl) (neq_other (P := Try.prog) (h := h_44) (t := 27) (lit := false) (by kernel_rfl) e99))) ?_
          refine WL.a (some 44) (.bool t43_100) h_44 ?_
          exact WL.weaken (Fr.c (Fr.c (Fr.c (Fr.c (Fr.c (Fr.c Fr.n)))))) (J49 _ _ hF)
      cases t34 with
      | true =>
        replace hF := ifB_t hF
        refine WL.o (some 36) ?_
        refine WL.o (some 37) ?_
        refine WL.o (some 38) ?_
        refine WL.a (some 39) (.bool true) h_39 ?_
        exact WL.weaken (Fr.c (Fr.c (Fr.c (Fr.c (Fr.c (Fr.c (Fr.c Fr.n))))))) (J46 _ _ hF)
      | false =>
        replace hF := ifB_f hF
        refine WL.a (some 36) (.int .i64 t23) h_39 ?_
        refine WL.a (some 37) (.int .i64 t30) h_39 ?_
        replace hF := lett_some hF; obtain ⟨t38, e102, hF⟩ := hF
        refine WL.val (d := (some 38)) (v := .bool t38) (h' := h_39) (by kernel_rfl) (by kernel_rfl) (val_of AV.bool e102 (by kernel_rfl)) ?_
        refine WL.a (some 39) (.bool t38) h_39 ?_
        exact WL.weaken (Fr.c (Fr.c (Fr.c (Fr.c (Fr.c (Fr.c (Fr.c Fr.n))))))) (J46 _ _ hF)
noncomputable def law09_PatternBegins_fn (call : CallF) (n : Nat) : FnT := fun args h => match args with
  | [x0, x1] => obind (avStr x0) fun t0 => obind (avInt .i64 x1) fun t1 => law09_PatternBegins call n t0 t1 h
  | _ => none
set_option maxRecDepth 100000 in
theorem law09_PatternBegins_fn_eq (call : CallF) (n : Nat) (t0 : Bytes) (t1 : Int) (h : AHeap) : law09_PatternBegins_fn call n [strA t0, .int .i64 t1] h = law09_PatternBegins call n t0 t1 h :=
  (Eq.trans (obind_eq (fun t0 => obind (avInt .i64 (.int .i64 t1)) fun t1 => law09_PatternBegins call n t0 t1 h) (avStr_str t0)) (Eq.trans (obind_eq (fun t1 => law09_PatternBegins call n t0 t1 h) (avInt_int .i64 t1)) rfl))
theorem law09_PatternBegins_holds {call : CallF} (hc : SaysAll Try.prog call) (n : Nat) : Holds Try.prog 5 (law09_PatternBegins_fn call n) := by
  intro args h r h2 e
  unfold law09_PatternBegins_fn at e
  split at e
  · replace e := obind_some e; obtain ⟨t0, c0, e⟩ := e; have c0 := avStr_some c0; subst c0
    replace e := obind_some e; obtain ⟨t1, c1, e⟩ := e; have c1 := avInt_some c1; subst c1
    exact law09_PatternBegins_ok hc e
  · cases e

noncomputable def law09_long (_ : CallF) (_ : Nat) (t0 : Int) (h : AHeap) : R :=
  lett (decide (t0 > 65536)) fun (t4 : Bool) =>
  some (.ret (.bool t4), h)
set_option maxHeartbeats 4000000 in
set_option maxRecDepth 20000 in
theorem law09_long_ok {call : CallF} (_ : SaysAll Try.prog call) {n : Nat} {t0 : Int} {h : AHeap} {rR : ARes} {hR : AHeap} (hF : law09_long call n t0 h = some (rR, hR)) : Says Try.prog 14 [.int .i64 t0] h rR hR := by
  unfold law09_long at hF
  refine says_of (fn := Try.f14) Try.func14 (c := codeOf Try.f14) (by kernel_rfl) (by kernel_rfl) (fun w0 m0 => ?_)
  refine W.weaken (l' := [(0, .int .i64 t0)]) (Fr.c Fr.n) ?_
  refine W.s (fun K1 n1 e1 q1 p1 => ?_)
  refine W.r ?_
  refine WL.a (some 2) (.bool false) h ?_
  refine WL.n ?_
  refine Go.weaken (l' := [(0, .int .i64 t0)]) (Fr.c Fr.n) ?_
  refine n1 ?_
  refine W.s (fun K2 n2 e2 q2 p2 => ?_)
  refine W.r ?_
  refine WL.a (some 3) (.int .i64 t0) h ?_
  replace hF := lett_some hF; obtain ⟨t4, e3, hF⟩ := hF
  refine WL.val (d := (some 4)) (v := .bool t4) (h' := h) (by kernel_rfl) (by kernel_rfl) (val_of AV.bool e3 (by kernel_rfl)) ?_
  refine WL.a (some 2) (.bool t4) h ?_
  refine WL.n ?_
  refine Go.weaken (l' := [(2, .bool t4)]) (Fr.c Fr.n) ?_
  refine n2 ?_
  refine W.ret (by kernel_rfl) ?_
  obtain ⟨hF, hF2⟩ := ret_inj hF; subst hF; subst hF2
  exact leave_of (rs := [.tmp 2]) (vs := [.bool t4]) (by kernel_rfl) (res_tmp (by kernel_rfl) res_nil) (by kernel_rfl)
noncomputable def law09_long_fn (call : CallF) (n : Nat) : FnT := fun args h => match args with
  | [x0] => obind (avInt .i64 x0) fun t0 => law09_long call n t0 h
  | _ => none
set_option maxRecDepth 100000 in
theorem law09_long_fn_eq (call : CallF) (n : Nat) (t0 : Int) (h : AHeap) : law09_long_fn call n [.int .i64 t0] h = law09_long call n t0 h :=
  (Eq.trans (obind_eq (fun t0 => law09_long call n t0 h) (avInt_int .i64 t0)) rfl)
theorem law09_long_holds {call : CallF} (hc : SaysAll Try.prog call) (n : Nat) : Holds Try.prog 14 (law09_long_fn call n) := by
  intro args h r h2 e
  unfold law09_long_fn at e
  split at e
  · replace e := obind_some e; obtain ⟨t0, c0, e⟩ := e; have c0 := avInt_some c0; subst c0
    exact law09_long_ok hc e
  · cases e

end Go.Proofs.Yteibdplpbcobbaa
