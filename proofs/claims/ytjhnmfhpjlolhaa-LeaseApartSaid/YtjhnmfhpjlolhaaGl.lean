/- Plain functions in place of the program's, and that their calls come to what they say. -/
import Derived.Test.YtjhnmfhpjlolhaaFrame
import Derived.Test.YtjhnmfhpjlolhaaAbs32
namespace Go.Proofs.Ytjhnmfhpjlolhaa
open Go.RowKit Abs

noncomputable def law20_LeaseSpans (call : CallF) (_ : Nat) (t0 : Int) (h : AHeap) : R :=
  callN (call 8 [] h) fun r5 h_4 =>
  obind (avBool r5) fun t5 =>
  lett (!t5) fun (t6 : Bool) =>
  ifB t6
  (
    some (.ret (.bool false), h_4))
  (
    callN (call 9 [.int .i64 t0] h_4) fun r9 h_10 =>
    obind (extT 0 r9) fun v10 =>
    obind (avInt .i64 v10) fun t10 =>
    obind (extT 1 r9) fun v11 =>
    obind (avInt .i64 v11) fun t11 =>
    lett (decide (t0 < 0)) fun (t13 : Bool) =>
    lett (fun (t17 : Bool) (h_19 : AHeap) =>
      ifB t17
      (
        lett ((t10 : Int) == 0) fun (t19 : Bool) =>
        lett (fun (t23 : Bool) (h_24 : AHeap) =>
          some (.ret (.bool t23), h_24)) fun j23 =>
        ifB t19
        (
          lett ((t11 : Int) == 2) fun (t22 : Bool) =>
          j23 t22 h_19)
        (
          j23 false h_19))
      (
        callN (call 13 [.int .i64 t0] h_19) fun r26 h_29 =>
        obind (avInt .i64 r26) fun t26 =>
        lett ((t10 : Int) == t26) fun (t27 : Bool) =>
        lett (fun (t31 : Bool) (h_33 : AHeap) =>
          some (.ret (.bool t31), h_33)) fun j31 =>
        ifB t27
        (
          lett ((t11 : Int) == 0) fun (t30 : Bool) =>
          j31 t30 h_29)
        (
          j31 false h_29))) fun j17 =>
    ifB t13
    (
      j17 true h_10)
    (
      lett (decide (t0 > 500)) fun (t16 : Bool) =>
      j17 t16 h_10))
set_option maxHeartbeats 4000000 in
set_option maxRecDepth 20000 in
theorem law20_LeaseSpans_ok {call : CallF} (hc : SaysAll Try.prog call) {n : Nat} {t0 : Int} {h : AHeap} {rR : ARes} {hR : AHeap} (hF : law20_LeaseSpans call n t0 h = some (rR, hR)) : Says Try.prog 4 [.int .i64 t0] h rR hR := by
  unfold law20_LeaseSpans at hF
  refine says_of (fn := Try.f4) Try.func4 (c := codeOf Try.f4) (by kernel_rfl) (by kernel_rfl) (fun w0 m0 => ?_)
  refine W.weaken (l' := [(0, .int .i64 t0)]) (Fr.sub_cons (by kernel_rfl) (Fr.sub_nil _)) ?_
  refine W.seqK (by kernel_rfl) (fun K1 n1 e1 r1 p1 => ?_)
  refine W.region (by kernel_rfl) ?_
  refine WL.val (d := (some 2)) (v := .bool false) (h' := h) (by kernel_rfl) (by kernel_rfl) (by kernel_rfl) ?_
  refine WL.nil (by kernel_rfl) ?_
  refine Go.weaken (l' := [(0, .int .i64 t0)]) (Fr.sub_cons (by kernel_rfl) (Fr.sub_nil _)) ?_
  refine n1 ?_
  refine W.seqK (by kernel_rfl) (fun K2 n2 e2 r2 p2 => ?_)
  refine W.seqK (by kernel_rfl) (fun K3 n3 e3 r3 p3 => ?_)
  refine W.region (by kernel_rfl) ?_
  replace hF := callN_some hF; obtain ⟨r5, h_4, e5, hF⟩ := hF
  replace hF := obind_some hF; obtain ⟨t5, c6, hF⟩ := hF
  have c6 := avBool_some c6
  subst c6
  refine WL.call (hc.ok w0) (d := (some 5)) (by kernel_rfl) (by kernel_rfl) (by kernel_rfl) e5 ?_
  replace hF := lett_some hF; obtain ⟨t6, e7, hF⟩ := hF
  refine WL.val (d := (some 6)) (v := .bool t6) (h' := h_4) (by kernel_rfl) (by kernel_rfl) (val_of AV.bool e7 (by kernel_rfl)) ?_
  refine WL.nil (by kernel_rfl) ?_
  refine Go.weaken (l' := [(0, .int .i64 t0), (6, .bool t6)]) (Fr.sub_cons (by kernel_rfl) (Fr.sub_cons (by kernel_rfl) (Fr.sub_nil _))) ?_
  refine n3 ?_
  cases t6 with
  | true =>
    replace hF := ifB_t hF
    refine W.cond_true (by kernel_rfl) (by kernel_rfl) ?_
    refine W.seqK (by kernel_rfl) (fun K8 n8 e8 r8 p8 => ?_)
    refine W.region (by kernel_rfl) ?_
    refine WL.val (d := (some 2)) (v := .bool false) (h' := h_4) (by kernel_rfl) (by kernel_rfl) (by kernel_rfl) ?_
    refine WL.nil (by kernel_rfl) ?_
    refine Go.weaken (l' := [(2, .bool false)]) (Fr.sub_cons (by kernel_rfl) (Fr.sub_nil _)) ?_
    refine n8 ?_
    refine W.ret (by kernel_rfl) ?_
    refine r2 ?_
    obtain ⟨hF, hF2⟩ := ret_inj hF; subst hF; subst hF2
    exact leave_of (rs := [.tmp 2]) (vs := [.bool false]) (by kernel_rfl) (res_tmp (by kernel_rfl) res_nil) (by kernel_rfl)
  | false =>
    replace hF := ifB_f hF
    refine W.cond_false (by kernel_rfl) (by kernel_rfl) ?_
    refine W.skip (by kernel_rfl) ?_
    refine n2 ?_
    refine W.seqK (by kernel_rfl) (fun K9 n9 e9 r9 p9 => ?_)
    refine W.region (by kernel_rfl) ?_
    refine WL.val (d := (some 8)) (v := .int .i64 t0) (h' := h_4) (by kernel_rfl) (by kernel_rfl) (by kernel_rfl) ?_
    replace hF := callN_some hF; obtain ⟨r9, h_10, e11, hF⟩ := hF
    refine WL.call (hc.ok w0) (d := (some 9)) (by kernel_rfl) (by kernel_rfl) (by kernel_rfl) e11 ?_
    refine WL.val (d := (some 7)) (v := r9) (h' := h_10) (by kernel_rfl) (by kernel_rfl) (by kernel_rfl) ?_
    replace hF := obind_some hF; obtain ⟨v10, e12, hF⟩ := hF
    replace hF := obind_some hF; obtain ⟨t10, c13, hF⟩ := hF
    have c13 := avInt_some c13
    subst c13
    refine WL.val (d := (some 10)) (v := .int .i64 t10) (h' := h_10) (by kernel_rfl) (by kernel_rfl) (Eq.trans (by kernel_rfl) (extract_tup (h := h_10) e12)) ?_
    replace hF := obind_some hF; obtain ⟨v11, e14, hF⟩ := hF
    replace hF := obind_some hF; obtain ⟨t11, c15, hF⟩ := hF
    have c15 := avInt_some c15
    subst c15
    refine WL.val (d := (some 11)) (v := .int .i64 t11) (h' := h_10) (by kernel_rfl) (by kernel_rfl) (Eq.trans (by kernel_rfl) (extract_tup (h := h_10) e14)) ?_
    refine WL.val (d := (some 3)) (v := .int .i64 t10) (h' := h_10) (by kernel_rfl) (by kernel_rfl) (by kernel_rfl) ?_
    refine WL.val (d := (some 4)) (v := .int .i64 t11) (h' := h_10) (by kernel_rfl) (by kernel_rfl) (by kernel_rfl) ?_
    refine WL.nil (by kernel_rfl) ?_
    refine Go.weaken (l' := [(0, .int .i64 t0), (3, .int .i64 t10), (4, .int .i64 t11)]) (Fr.sub_cons (by kernel_rfl) (Fr.sub_cons (by kernel_rfl) (Fr.sub_cons (by kernel_rfl) (Fr.sub_nil _)))) ?_
    refine n9 ?_
    refine W.seqK (by kernel_rfl) (fun K16 n16 e16 r16 p16 => ?_)
    refine W.seqK (by kernel_rfl) (fun K17 n17 e17 r17 p17 => ?_)
    refine W.region (by kernel_rfl) ?_
    refine WL.val (d := (some 12)) (v := .int .i64 t0) (h' := h_10) (by kernel_rfl) (by kernel_rfl) (by kernel_rfl) ?_
    replace hF := lett_some hF; obtain ⟨t13, e18, hF⟩ := hF
    refine WL.val (d := (some 13)) (v := .bool t13) (h' := h_10) (by kernel_rfl) (by kernel_rfl) (val_of AV.bool e18 (by kernel_rfl)) ?_
    refine WL.val (d := (some 14)) (v := .bool t13) (h' := h_10) (by kernel_rfl) (by kernel_rfl) (by kernel_rfl) ?_
    replace hF := lett_some hF; obtain ⟨j17, e20, hF⟩ := hF
    have J21 : ∀ (t17 : Bool) (h_19 : AHeap), j17 t17 h_19 = some (rR, hR) → WL Try.prog w0 m0 (Func.ntmps Try.f4) (Code.ops (Code.p1 (Code.p1 (Code.p2 (Code.p2 (Code.p2 (codeOf Try.f4))))))) 6 K17 [(0, .int .i64 t0), (3, .int .i64 t10), (4, .int .i64 t11), (17, .bool t17)] [] h_19 := by
      intro t17 h_19 hF
      rw [e20] at hF
      refine WL.nil (by kernel_rfl) ?_
      refine Go.weaken (l' := [(0, .int .i64 t0), (3, .int .i64 t10), (4, .int .i64 t11), (17, .bool t17)]) (Fr.sub_cons (by kernel_rfl) (Fr.sub_cons (by kernel_rfl) (Fr.sub_cons (by kernel_rfl) (Fr.sub_cons (by kernel_rfl) (Fr.sub_nil _))))) ?_
      refine n17 ?_
      cases t17 with
      | true =>
        replace hF := ifB_t hF
        refine W.cond_true (by kernel_rfl) (by kernel_rfl) ?_
        refine W.seqK (by kernel_rfl) (fun K22 n22 e22 r22 p22 => ?_)
        refine W.region (by kernel_rfl) ?_
        refine WL.val (d := (some 18)) (v := .int .i64 t10) (h' := h_19) (by kernel_rfl) (by kernel_rfl) (by kernel_rfl) ?_
        replace hF := lett_some hF; obtain ⟨t19, e23, hF⟩ := hF
        refine WL.val (d := (some 19)) (v := .bool t19) (h' := h_19) (by kernel_rfl) (by kernel_rfl) (val_of AV.bool e23 (by kernel_rfl)) ?_
        refine WL.val (d := (some 20)) (v := .bool t19) (h' := h_19) (by kernel_rfl) (by kernel_rfl) (by kernel_rfl) ?_
        replace hF := lett_some hF; obtain ⟨j23, e25, hF⟩ := hF
        have J26 : ∀ (t23 : Bool) (h_24 : AHeap), j23 t23 h_24 = some (rR, hR) → WL Try.prog w0 m0 (Func.ntmps Try.f4) (Code.ops (Code.p1 (Code.p1 (Code.p2 (Code.p1 (Code.p2 (Code.p2 (Code.p2 (codeOf Try.f4))))))))) 6 K22 [(23, .bool t23)] [] h_24 := by
          intro t23 h_24 hF
          rw [e25] at hF
          refine WL.val (d := (some 2)) (v := .bool t23) (h' := h_24) (by kernel_rfl) (by kernel_rfl) (by kernel_rfl) ?_
          refine WL.nil (by kernel_rfl) ?_
          refine Go.weaken (l' := [(2, .bool t23)]) (Fr.sub_cons (by kernel_rfl) (Fr.sub_nil _)) ?_
          refine n22 ?_
          refine W.ret (by kernel_rfl) ?_
          refine r16 ?_
          obtain ⟨hF, hF2⟩ := ret_inj hF; subst hF; subst hF2
          exact leave_of (rs := [.tmp 2]) (vs := [.bool t23]) (by kernel_rfl) (res_tmp (by kernel_rfl) res_nil) (by kernel_rfl)
        cases t19 with
        | true =>
          replace hF := ifB_t hF
          refine WL.val (d := (some 21)) (v := .int .i64 t11) (h' := h_19) (by kernel_rfl) (by kernel_rfl) (by kernel_rfl) ?_
          replace hF := lett_some hF; obtain ⟨t22, e27, hF⟩ := hF
          refine WL.val (d := (some 22)) (v := .bool t22) (h' := h_19) (by kernel_rfl) (by kernel_rfl) (val_of AV.bool e27 (by kernel_rfl)) ?_
          refine WL.val (d := (some 23)) (v := .bool t22) (h' := h_19) (by kernel_rfl) (by kernel_rfl) (by kernel_rfl) ?_
          exact WL.weaken (Fr.sub_cons (by kernel_rfl) (Fr.sub_nil _)) (J26 _ _ hF)
        | false =>
          replace hF := ifB_f hF
          refine WL.not (d := (some 21)) (by kernel_rfl) (by kernel_rfl) ?_
          refine WL.not (d := (some 22)) (by kernel_rfl) (by kernel_rfl) ?_
          refine WL.val (d := (some 23)) (v := .bool false) (h' := h_19) (by kernel_rfl) (by kernel_rfl) (by kernel_rfl) ?_
          exact WL.weaken (Fr.sub_cons (by kernel_rfl) (Fr.sub_nil _)) (J26 _ _ hF)
      | false =>
        replace hF := ifB_f hF
        refine W.cond_false (by kernel_rfl) (by kernel_rfl) ?_
        refine W.skip (by kernel_rfl) ?_
        refine n16 ?_
        refine W.seqK (by kernel_rfl) (fun K28 n28 e28 r28 p28 => ?_)
        refine W.region (by kernel_rfl) ?_
        refine WL.val (d := (some 24)) (v := .int .i64 t10) (h' := h_19) (by kernel_rfl) (by kernel_rfl) (by kernel_rfl) ?_
        refine WL.val (d := (some 25)) (v := .int .i64 t0) (h' := h_19) (by kernel_rfl) (by kernel_rfl) (by kernel_rfl) ?_
        replace hF := callN_some hF; obtain ⟨r26, h_29, e30, hF⟩ := hF
        replace hF := obind_some hF; obtain ⟨t26, c31, hF⟩ := hF
        have c31 := avInt_some c31
        subst c31
        refine WL.call (hc.ok w0) (d := (some 26)) (by kernel_rfl) (by kernel_rfl) (by kernel_rfl) e30 ?_
        replace hF := lett_some hF; obtain ⟨t27, e32, hF⟩ := hF
        refine WL.val (d := (some 27)) (v := .bool t27) (h' := h_29) (by kernel_rfl) (by kernel_rfl) (val_of AV.bool e32 (by kernel_rfl)) ?_
        refine WL.val (d := (some 28)) (v := .bool t27) (h' := h_29) (by kernel_rfl) (by kernel_rfl) (by kernel_rfl) ?_
        replace hF := lett_some hF; obtain ⟨j31, e34, hF⟩ := hF
        have J35 : ∀ (t31 : Bool) (h_33 : AHeap), j31 t31 h_33 = some (rR, hR) → WL Try.prog w0 m0 (Func.ntmps Try.f4) (Code.ops (Code.p1 (Code.p2 (Code.p2 (Code.p2 (Code.p2 (codeOf Try.f4))))))) 8 K28 [(31, .bool t31)] [] h_33 := by
          intro t31 h_33 hF
          rw [e34] at hF
          refine WL.val (d := (some 2)) (v := .bool t31) (h' := h_33) (by kernel_rfl) (by kernel_rfl) (by kernel_rfl) ?_
          refine WL.nil (by kernel_rfl) ?_
          refine Go.weaken (l' := [(2, .bool t31)]) (Fr.sub_cons (by kernel_rfl) (Fr.sub_nil _)) ?_
          refine n28 ?_
          refine W.ret (by kernel_rfl) ?_
          obtain ⟨hF, hF2⟩ := ret_inj hF; subst hF; subst hF2
          exact leave_of (rs := [.tmp 2]) (vs := [.bool t31]) (by kernel_rfl) (res_tmp (by kernel_rfl) res_nil) (by kernel_rfl)
        cases t27 with
        | true =>
          replace hF := ifB_t hF
          refine WL.val (d := (some 29)) (v := .int .i64 t11) (h' := h_29) (by kernel_rfl) (by kernel_rfl) (by kernel_rfl) ?_
          replace hF := lett_some hF; obtain ⟨t30, e36, hF⟩ := hF
          refine WL.val (d := (some 30)) (v := .bool t30) (h' := h_29) (by kernel_rfl) (by kernel_rfl) (val_of AV.bool e36 (by kernel_rfl)) ?_
          refine WL.val (d := (some 31)) (v := .bool t30) (h' := h_29) (by kernel_rfl) (by kernel_rfl) (by kernel_rfl) ?_
          exact WL.weaken (Fr.sub_cons (by kernel_rfl) (Fr.sub_nil _)) (J35 _ _ hF)
        | false =>
          replace hF := ifB_f hF
          refine WL.not (d := (some 29)) (by kernel_rfl) (by kernel_rfl) ?_
          refine WL.not (d := (some 30)) (by kernel_rfl) (by kernel_rfl) ?_
          refine WL.val (d := (some 31)) (v := .bool false) (h' := h_29) (by kernel_rfl) (by kernel_rfl) (by kernel_rfl) ?_
          exact WL.weaken (Fr.sub_cons (by kernel_rfl) (Fr.sub_nil _)) (J35 _ _ hF)
    cases t13 with
    | true =>
      replace hF := ifB_t hF
      refine WL.not (d := (some 15)) (by kernel_rfl) (by kernel_rfl) ?_
      refine WL.not (d := (some 16)) (by kernel_rfl) (by kernel_rfl) ?_
      refine WL.val (d := (some 17)) (v := .bool true) (h' := h_10) (by kernel_rfl) (by kernel_rfl) (by kernel_rfl) ?_
      exact WL.weaken (Fr.sub_cons (by kernel_rfl) (Fr.sub_cons (by kernel_rfl) (Fr.sub_cons (by kernel_rfl) (Fr.sub_cons (by kernel_rfl) (Fr.sub_nil _))))) (J21 _ _ hF)
    | false =>
      replace hF := ifB_f hF
      refine WL.val (d := (some 15)) (v := .int .i64 t0) (h' := h_10) (by kernel_rfl) (by kernel_rfl) (by kernel_rfl) ?_
      replace hF := lett_some hF; obtain ⟨t16, e37, hF⟩ := hF
      refine WL.val (d := (some 16)) (v := .bool t16) (h' := h_10) (by kernel_rfl) (by kernel_rfl) (val_of AV.bool e37 (by kernel_rfl)) ?_
      refine WL.val (d := (some 17)) (v := .bool t16) (h' := h_10) (by kernel_rfl) (by kernel_rfl) (by kernel_rfl) ?_
      exact WL.weaken (Fr.sub_cons (by kernel_rfl) (Fr.sub_cons (by kernel_rfl) (Fr.sub_cons (by kernel_rfl) (Fr.sub_cons (by kernel_rfl) (Fr.sub_nil _))))) (J21 _ _ hF)
noncomputable def law20_LeaseSpans_fn (call : CallF) (n : Nat) : FnT := fun args h => match args with
  | [x0] => obind (avInt .i64 x0) fun t0 => law20_LeaseSpans call n t0 h
  | _ => none
set_option maxRecDepth 100000 in
theorem law20_LeaseSpans_fn_eq (call : CallF) (n : Nat) (t0 : Int) (h : AHeap) : law20_LeaseSpans_fn call n [.int .i64 t0] h = law20_LeaseSpans call n t0 h :=
  (Eq.trans (obind_eq (fun t0 => law20_LeaseSpans call n t0 h) (avInt_int .i64 t0)) rfl)
theorem law20_LeaseSpans_holds {call : CallF} (hc : SaysAll Try.prog call) (n : Nat) : Holds Try.prog 4 (law20_LeaseSpans_fn call n) := by
  intro args h r h2 e
  unfold law20_LeaseSpans_fn at e
  split at e
  · replace e := obind_some e; obtain ⟨t0, c0, e⟩ := e; have c0 := avInt_some c0; subst c0
    exact law20_LeaseSpans_ok hc e
  · cases e

noncomputable def law20_LeaseHolds_L0b (t20 : List AV) (k26 : AHeap → R) (self : Int → AHeap → R) (t21 : Int) (h_40 : AHeap) : R :=
  lett (decide (t21 < 3)) fun (t22 : Bool) =>
  ifB t22
  (
    outK (opIndex Try.prog h_40 26 (some (.agg t20)) (some (.int .i64 t21))) fun v23 h_47 =>
    obind (avInt .i64 v23) fun t23 =>
    lett (decide (t23 < (-1152921504606846976))) fun (t25 : Bool) =>
    lett (fun (t29 : Bool) (h_52 : AHeap) =>
      ifB t29
      (
        some (.ret (.bool true), h_52))
      (
        lett (IntKind.i64.wrap (t21 + 1)) fun (t30 : Int) =>
        self t30 h_52)) fun j29 =>
    ifB t25
    (
      j29 true h_47)
    (
      lett (decide (t23 > 1152921504606846976)) fun (t28 : Bool) =>
      j29 t28 h_47))
  (
    k26 h_40)
noncomputable def law20_LeaseHolds_L0 (t20 : List AV) (k26 : AHeap → R) : Nat → Int → AHeap → R := iterR (fun _ _ => none) (law20_LeaseHolds_L0b t20 k26)
theorem law20_LeaseHolds_L0_s (t20 : List AV) (k26 : AHeap → R) (m : Nat) : law20_LeaseHolds_L0 t20 k26 (m + 1) = law20_LeaseHolds_L0b t20 k26 (law20_LeaseHolds_L0 t20 k26 m) := rfl
noncomputable def law20_LeaseHolds (call : CallF) (n : Nat) (t0 : List AV) (t1 : Int) (t2 : Int) (h : AHeap) : R :=
  outK (opBox h 32 (some (.agg t0))) fun v3 h_2 =>
  callN (call 8 [] h_2) fun r9 h_6 =>
  obind (avBool r9) fun t9 =>
  lett (!t9) fun (t10 : Bool) =>
  ifB t10
  (
    some (.ret (.bool false), h_6))
  (
    obind (fldP 8 v3) fun t11 =>
    obind (ldCell h_6 t11) fun v12 =>
    obind (avInt .i64 v12) fun t12 =>
    lett (decide (t12 < (-1152921504606846976))) fun (t13 : Bool) =>
    lett (fun (t18 : Bool) (h_17 : AHeap) =>
      ifB t18
      (
        some (.ret (.bool true), h_17))
      (
        obind (fldP 10 v3) fun t19 =>
        obind (ldRow h_17 3 t19) fun t20 =>
        lett (fun  (h_27 : AHeap) =>
          obind (ldRow h_27 13 v3) fun t31 =>
          obind (ldRow h_27 13 v3) fun t35 =>
          callN (call 12 [.agg t31, .int .i64 t1, .int .i64 t2] h_27) fun r34 h_31 =>
          obind (avBool r34) fun t34 =>
          chk (reLoad Try.prog h_31 32 v3 (.agg t35) && (true && true)) <|
          callN (call 14 [.agg t35, .int .i64 t1, .int .i64 t2] h_31) fun r38 h_35 =>
          obind (avBool r38) fun t38 =>
          lett ((t34 : Bool) == t38) fun (t39 : Bool) =>
          some (.ret (.bool t39), h_35)) fun k26 =>
        law20_LeaseHolds_L0 t20 k26 n 0 h_17)) fun j18 =>
    ifB t13
    (
      j18 true h_6)
    (
      obind (fldP 8 v3) fun t15 =>
      obind (ldCell h_6 t15) fun v16 =>
      obind (avInt .i64 v16) fun t16 =>
      lett (decide (t16 > 1152921504606846976)) fun (t17 : Bool) =>
      j18 t17 h_6))
set_option maxHeartbeats 4000000 in
set_option maxRecDepth 20000 in
theorem law20_LeaseHolds_ok {call : CallF} (hc : SaysAll Try.prog call) {n : Nat} {t0 : List AV} {t1 : Int} {t2 : Int} {h : AHeap} {rR : ARes} {hR : AHeap} (hF : law20_LeaseHolds call n t0 t1 t2 h = some (rR, hR)) : Says Try.prog 5 [.agg t0, .int .i64 t1, .int .i64 t2] h rR hR := by
  unfold law20_LeaseHolds at hF
  refine says_of (fn := Try.f5) Try.func5 (c := codeOf Try.f5) (by kernel_rfl) (by kernel_rfl) (fun w0 m0 => ?_)
  refine W.weaken (l' := [(0, .agg t0), (1, .int .i64 t1), (2, .int .i64 t2)]) (Fr.sub_cons (by kernel_rfl) (Fr.sub_cons (by kernel_rfl) (Fr.sub_cons (by kernel_rfl) (Fr.sub_nil _)))) ?_
  refine W.seqK (by kernel_rfl) (fun K1 n1 e1 r1 p1 => ?_)
  refine W.region (by kernel_rfl) ?_
  replace hF := outK_some hF; obtain ⟨v3, h_2, e3, hF⟩ := hF
  refine WL.val (d := (some 3)) (v := v3) (h' := h_2) (by kernel_rfl) (by kernel_rfl) (Eq.trans (by kernel_rfl) e3) ?_
  refine WL.val (d := (some 6)) (v := .bool false) (h' := h_2) (by kernel_rfl) (by kernel_rfl) (by kernel_rfl) ?_
  refine WL.nil (by kernel_rfl) ?_
  refine Go.weaken (l' := [(1, .int .i64 t1), (2, .int .i64 t2), (3, v3)]) (Fr.sub_cons (by kernel_rfl) (Fr.sub_cons (by kernel_rfl) (Fr.sub_cons (by kernel_rfl) (Fr.sub_nil _)))) ?_
  refine n1 ?_
  refine W.seqK (by kernel_rfl) (fun K4 n4 e4 r4 p4 => ?_)
  refine W.seqK (by kernel_rfl) (fun K5 n5 e5 r5 p5 => ?_)
  refine W.region (by kernel_rfl) ?_
  replace hF := callN_some hF; obtain ⟨r9, h_6, e7, hF⟩ := hF
  replace hF := obind_some hF; obtain ⟨t9, c8, hF⟩ := hF
  have c8 := avBool_some c8
  subst c8
  refine WL.call (hc.ok w0) (d := (some 9)) (by kernel_rfl) (by kernel_rfl) (by kernel_rfl) e7 ?_
  replace hF := lett_some hF; obtain ⟨t10, e9, hF⟩ := hF
  refine WL.val (d := (some 10)) (v := .bool t10) (h' := h_6) (by kernel_rfl) (by kernel_rfl) (val_of AV.bool e9 (by kernel_rfl)) ?_
  refine WL.nil (by kernel_rfl) ?_
  refine Go.weaken (l' := [(1, .int .i64 t1), (2, .int .i64 t2), (3, v3), (10, .bool t10)]) (Fr.sub_cons (by kernel_rfl) (Fr.sub_cons (by kernel_rfl) (Fr.sub_cons (by kernel_rfl) (Fr.sub_cons (by kernel_rfl) (Fr.sub_nil _))))) ?_
  refine n5 ?_
  cases t10 with
  | true =>
    replace hF := ifB_t hF
    refine W.cond_true (by kernel_rfl) (by kernel_rfl) ?_
    refine W.seqK (by kernel_rfl) (fun K10 n10 e10 r10 p10 => ?_)
    refine W.region (by kernel_rfl) ?_
    refine WL.val (d := (some 6)) (v := .bool false) (h' := h_6) (by kernel_rfl) (by kernel_rfl) (by kernel_rfl) ?_
    refine WL.nil (by kernel_rfl) ?_
    refine Go.weaken (l' := [(6, .bool false)]) (Fr.sub_cons (by kernel_rfl) (Fr.sub_nil _)) ?_
    refine n10 ?_
    refine W.ret (by kernel_rfl) ?_
    refine r4 ?_
    obtain ⟨hF, hF2⟩ := ret_inj hF; subst hF; subst hF2
    exact leave_of (rs := [.tmp 6]) (vs := [.bool false]) (by kernel_rfl) (res_tmp (by kernel_rfl) res_nil) (by kernel_rfl)
  | false =>
    replace hF := ifB_f hF
    refine W.cond_false (by kernel_rfl) (by kernel_rfl) ?_
    refine W.skip (by kernel_rfl) ?_
    refine n4 ?_
    refine W.seqK (by kernel_rfl) (fun K11 n11 e11 r11 p11 => ?_)
    refine W.seqK (by kernel_rfl) (fun K12 n12 e12 r12 p12 => ?_)
    refine W.region (by kernel_rfl) ?_
    replace hF := obind_some hF; obtain ⟨t11, e13, hF⟩ := hF
    refine WL.val (d := (some 11)) (v := t11) (h' := h_6) (by kernel_rfl) (by kernel_rfl) (Eq.trans (by kernel_rfl) (field_ptr (P := Try.prog) (h := h_6) (s := 32) (f := 6) (by kernel_rfl) e13)) ?_
    replace hF := obind_some hF; obtain ⟨v12, e14, hF⟩ := hF
    replace hF := obind_some hF; obtain ⟨t12, c15, hF⟩ := hF
    have c15 := avInt_some c15
    subst c15
    refine WL.val (d := (some 12)) (v := .int .i64 t12) (h' := h_6) (by kernel_rfl) (by kernel_rfl) (Eq.trans (by kernel_rfl) (load_cell (P := Try.prog) (h := h_6) (t := 3) (by kernel_rfl) e14)) ?_
    replace hF := lett_some hF; obtain ⟨t13, e16, hF⟩ := hF
    refine WL.val (d := (some 13)) (v := .bool t13) (h' := h_6) (by kernel_rfl) (by kernel_rfl) (val_of AV.bool e16 (by kernel_rfl)) ?_
    refine WL.val (d := (some 14)) (v := .bool t13) (h' := h_6) (by kernel_rfl) (by kernel_rfl) (by kernel_rfl) ?_
    replace hF := lett_some hF; obtain ⟨j18, e18, hF⟩ := hF
    have J19 : ∀ (t18 : Bool) (h_17 : AHeap), j18 t18 h_17 = some (rR, hR) → WL Try.prog w0 m0 (Func.ntmps Try.f5) (Code.ops (Code.p1 (Code.p1 (Code.p2 (Code.p2 (codeOf Try.f5)))))) 8 K12 [(1, .int .i64 t1), (2, .int .i64 t2), (3, v3), (18, .bool t18)] [] h_17 := by
      intro t18 h_17 hF
      rw [e18] at hF
      refine WL.nil (by kernel_rfl) ?_
      refine Go.weaken (l' := [(1, .int .i64 t1), (2, .int .i64 t2), (3, v3), (18, .bool t18)]) (Fr.sub_cons (by kernel_rfl) (Fr.sub_cons (by kernel_rfl) (Fr.sub_cons (by kernel_rfl) (Fr.sub_cons (by kernel_rfl) (Fr.sub_nil _))))) ?_
      refine n12 ?_
      cases t18 with
      | true =>
        replace hF := ifB_t hF
        refine W.cond_true (by kernel_rfl) (by kernel_rfl) ?_
        refine W.seqK (by kernel_rfl) (fun K20 n20 e20 r20 p20 => ?_)
        refine W.region (by kernel_rfl) ?_
        refine WL.val (d := (some 6)) (v := .bool true) (h' := h_17) (by kernel_rfl) (by kernel_rfl) (by kernel_rfl) ?_
        refine WL.nil (by kernel_rfl) ?_
        refine Go.weaken (l' := [(6, .bool true)]) (Fr.sub_cons (by kernel_rfl) (Fr.sub_nil _)) ?_
        refine n20 ?_
        refine W.ret (by kernel_rfl) ?_
        refine r11 ?_
        obtain ⟨hF, hF2⟩ := ret_inj hF; subst hF; subst hF2
        exact leave_of (rs := [.tmp 6]) (vs := [.bool true]) (by kernel_rfl) (res_tmp (by kernel_rfl) res_nil) (by kernel_rfl)
      | false =>
        replace hF := ifB_f hF
        refine W.cond_false (by kernel_rfl) (by kernel_rfl) ?_
        refine W.skip (by kernel_rfl) ?_
        refine n11 ?_
        refine W.seqK (by kernel_rfl) (fun K21 n21 e21 r21 p21 => ?_)
        refine W.seqK (by kernel_rfl) (fun K22 n22 e22 r22 p22 => ?_)
        refine W.region (by kernel_rfl) ?_
        replace hF := obind_some hF; obtain ⟨t19, e23, hF⟩ := hF
        refine WL.val (d := (some 19)) (v := t19) (h' := h_17) (by kernel_rfl) (by kernel_rfl) (Eq.trans (by kernel_rfl) (field_ptr (P := Try.prog) (h := h_17) (s := 32) (f := 8) (by kernel_rfl) e23)) ?_
        replace hF := obind_some hF; obtain ⟨t20, e24, hF⟩ := hF
        refine WL.val (d := (some 20)) (v := .agg t20) (h' := h_17) (by kernel_rfl) (by kernel_rfl) (Eq.trans (by kernel_rfl) (load_row (P := Try.prog) (h := h_17) (t := 26) (by kernel_rfl) (by kernel_rfl) e24)) ?_
        refine WL.val (d := (some 21)) (v := .int .i64 0) (h' := h_17) (by kernel_rfl) (by kernel_rfl) (by kernel_rfl) ?_
        refine WL.nil (by kernel_rfl) ?_
        refine Go.weaken (l' := [(1, .int .i64 t1), (2, .int .i64 t2), (3, v3), (20, .agg t20), (21, .int .i64 0)]) (Fr.sub_cons (by kernel_rfl) (Fr.sub_cons (by kernel_rfl) (Fr.sub_cons (by kernel_rfl) (Fr.sub_cons (by kernel_rfl) (Fr.sub_cons (by kernel_rfl) (Fr.sub_nil _)))))) ?_
        refine n22 ?_
        replace hF := lett_some hF; obtain ⟨k26, e26, hF⟩ := hF
        have J26 : ∀  (h_27 : AHeap), k26 h_27 = some (rR, hR) → Go w0 m0 (Func.ntmps Try.f5) (K21 .normal) [(1, .int .i64 t1), (2, .int .i64 t2), (3, v3)] [] h_27 := by
          intro  h_27 hF
          rw [e26] at hF
          refine n21 ?_
          refine W.seqK (by kernel_rfl) (fun K28 n28 e28 r28 p28 => ?_)
          refine W.draw (by kernel_rfl) (hc.ok w0) (plan := [0, 1, 2, 4, 5, 6, 3, 7, 8, 9]) (by kernel_rfl) (by kernel_rfl) (by kernel_rfl) ?_
          replace hF := obind_some hF; obtain ⟨t31, e29, hF⟩ := hF
          refine WD.val (d := (some 31)) (v := .agg t31) (h' := h_27) (by kernel_rfl) (by kernel_rfl) (Eq.trans (by kernel_rfl) (load_row (P := Try.prog) (h := h_27) (t := 32) (by kernel_rfl) (by kernel_rfl) e29)) (k := 1) (by kernel_rfl) (fun e => absurd e (by decide)) (by decide) ?_
          refine WD.val (d := (some 32)) (v := .int .i64 t1) (h' := h_27) (by kernel_rfl) (by kernel_rfl) (by kernel_rfl) (k := 0) (by kernel_rfl) (fun e => absurd e (by decide)) (by decide) ?_
          refine WD.val (d := (some 33)) (v := .int .i64 t2) (h' := h_27) (by kernel_rfl) (by kernel_rfl) (by kernel_rfl) (k := 0) (by kernel_rfl) (fun e => absurd e (by decide)) (by decide) ?_
          replace hF := obind_some hF; obtain ⟨t35, e30, hF⟩ := hF
          refine WD.val (d := (some 35)) (v := .agg t35) (h' := h_27) (by kernel_rfl) (by kernel_rfl) (Eq.trans (by kernel_rfl) (load_row (P := Try.prog) (h := h_27) (t := 32) (by kernel_rfl) (by kernel_rfl) e30)) (k := 1) (by kernel_rfl) (fun e => absurd e (by decide)) (by decide) ?_
          refine WD.val (d := (some 36)) (v := .int .i64 t1) (h' := h_27) (by kernel_rfl) (by kernel_rfl) (by kernel_rfl) (k := 0) (by kernel_rfl) (fun e => absurd e (by decide)) (by decide) ?_
          refine WD.val (d := (some 37)) (v := .int .i64 t2) (h' := h_27) (by kernel_rfl) (by kernel_rfl) (by kernel_rfl) (k := 0) (by kernel_rfl) (fun e => absurd e (by decide)) (by decide) ?_
          replace hF := callN_some hF; obtain ⟨r34, h_31, e32, hF⟩ := hF
          replace hF := obind_some hF; obtain ⟨t34, c33, hF⟩ := hF
          have c33 := avBool_some c33
          subst c33
          replace hF := chk_some hF; obtain ⟨k34, hF⟩ := hF
          refine WD.call (d := (some 34)) (by kernel_rfl) (by kernel_rfl) (by kernel_rfl) e32 (k := 2) (by kernel_rfl) (fun _ => (Eq.trans (by kernel_rfl) k34)) (by decide) ?_
          replace hF := callN_some hF; obtain ⟨r38, h_35, e36, hF⟩ := hF
          replace hF := obind_some hF; obtain ⟨t38, c37, hF⟩ := hF
          have c37 := avBool_some c37
          subst c37
          refine WD.call (d := (some 38)) (by kernel_rfl) (by kernel_rfl) (by kernel_rfl) e36 (k := 2) (by kernel_rfl) (fun _ => (by kernel_rfl)) (by decide) ?_
          replace hF := lett_some hF; obtain ⟨t39, e38, hF⟩ := hF
          refine WD.val (d := (some 39)) (v := .bool t39) (h' := h_35) (by kernel_rfl) (by kernel_rfl) (val_of AV.bool e38 (by kernel_rfl)) (k := 0) (by kernel_rfl) (fun e => absurd e (by decide)) (by decide) ?_
          refine WD.val (d := (some 6)) (v := .bool t39) (h' := h_35) (by kernel_rfl) (by kernel_rfl) (by kernel_rfl) (k := 0) (by kernel_rfl) (fun e => absurd e (by decide)) (by decide) ?_
          refine WD.nil ?_
          refine Go.weaken (l' := [(6, .bool t39)]) (Fr.sub_cons (by kernel_rfl) (Fr.sub_nil _)) ?_
          refine n28 ?_
          refine W.ret (by kernel_rfl) ?_
          obtain ⟨hF, hF2⟩ := ret_inj hF; subst hF; subst hF2
          exact leave_of (rs := [.tmp 6]) (vs := [.bool t39]) (by kernel_rfl) (res_tmp (by kernel_rfl) res_nil) (by kernel_rfl)
        refine W.blockK (by kernel_rfl) (fun K25 n25 s25 o25 r25 p25 => ?_)
        refine W.loopK (by kernel_rfl) (fun I39 K39 b39 n39 e39 r39 p39 => ?_)
        have L39 : ∀ (m : Nat) (t21 : Int) (h_40 : AHeap), law20_LeaseHolds_L0 t20 k26 m t21 h_40 = some (rR, hR) → Go w0 m0 (Func.ntmps Try.f5) I39 [(1, .int .i64 t1), (2, .int .i64 t2), (3, v3), (20, .agg t20), (21, .int .i64 t21)] [] h_40 := by
          intro m
          induction m with
          | zero => intro t21 h_40 hF; cases hF
          | succ m ih39 =>
            intro t21 h_40 hF
            rw [law20_LeaseHolds_L0_s] at hF; unfold law20_LeaseHolds_L0b at hF
            refine b39 ?_
            refine W.seqK (by kernel_rfl) (fun K41 n41 e41 r41 p41 => ?_)
            refine W.region (by kernel_rfl) ?_
            replace hF := lett_some hF; obtain ⟨t22, e42, hF⟩ := hF
            refine WL.val (d := (some 22)) (v := .bool t22) (h' := h_40) (by kernel_rfl) (by kernel_rfl) (val_of AV.bool e42 (by kernel_rfl)) ?_
            refine WL.nil (by kernel_rfl) ?_
            refine Go.weaken (l' := [(1, .int .i64 t1), (2, .int .i64 t2), (3, v3), (20, .agg t20), (21, .int .i64 t21), (22, .bool t22)]) (Fr.sub_cons (by kernel_rfl) (Fr.sub_cons (by kernel_rfl) (Fr.sub_cons (by kernel_rfl) (Fr.sub_cons (by kernel_rfl) (Fr.sub_cons (by kernel_rfl) (Fr.sub_cons (by kernel_rfl) (Fr.sub_nil _))))))) ?_
            refine n41 ?_
            refine W.seqK (by kernel_rfl) (fun K43 n43 e43 r43 p43 => ?_)
            cases t22 with
            | true =>
              replace hF := ifB_t hF
              refine W.cond_true (by kernel_rfl) (by kernel_rfl) ?_
              refine W.skip (by kernel_rfl) ?_
              refine n43 ?_
              refine W.seqK (by kernel_rfl) (fun K44 n44 e44 r44 p44 => ?_)
              refine W.blockK (by kernel_rfl) (fun K45 n45 s45 o45 r45 p45 => ?_)
              refine W.seqK (by kernel_rfl) (fun K46 n46 e46 r46 p46 => ?_)
              refine W.region (by kernel_rfl) ?_
              replace hF := outK_some hF; obtain ⟨v23, h_47, e48, hF⟩ := hF
              replace hF := obind_some hF; obtain ⟨t23, c49, hF⟩ := hF
              have c49 := avInt_some c49
              subst c49
              refine WL.val (d := (some 23)) (v := .int .i64 t23) (h' := h_47) (by kernel_rfl) (by kernel_rfl) (Eq.trans (by kernel_rfl) e48) ?_
              refine WL.val (d := (some 8)) (v := .int .i64 t23) (h' := h_47) (by kernel_rfl) (by kernel_rfl) (by kernel_rfl) ?_
              refine WL.nil (by kernel_rfl) ?_
              refine Go.weaken (l' := [(1, .int .i64 t1), (2, .int .i64 t2), (3, v3), (8, .int .i64 t23), (20, .agg t20), (21, .int .i64 t21)]) (Fr.sub_cons (by kernel_rfl) (Fr.sub_cons (by kernel_rfl) (Fr.sub_cons (by kernel_rfl) (Fr.sub_cons (by kernel_rfl) (Fr.sub_cons (by kernel_rfl) (Fr.sub_cons (by kernel_rfl) (Fr.sub_nil _))))))) ?_
              refine n46 ?_
              refine W.seqK (by kernel_rfl) (fun K50 n50 e50 r50 p50 => ?_)
              refine W.region (by kernel_rfl) ?_
              refine WL.val (d := (some 24)) (v := .int .i64 t23) (h' := h_47) (by kernel_rfl) (by kernel_rfl) (by kernel_rfl) ?_
              replace hF := lett_some hF; obtain ⟨t25, e51, hF⟩ := hF
              refine WL.val (d := (some 25)) (v := .bool t25) (h' := h_47) (by kernel_rfl) (by kernel_rfl) (val_of AV.bool e51 (by kernel_rfl)) ?_
              refine WL.val (d := (some 26)) (v := .bool t25) (h' := h_47) (by kernel_rfl) (by kernel_rfl) (by kernel_rfl) ?_
              replace hF := lett_some hF; obtain ⟨j29, e53, hF⟩ := hF
              have J54 : ∀ (t29 : Bool) (h_52 : AHeap), j29 t29 h_52 = some (rR, hR) → WL Try.prog w0 m0 (Func.ntmps Try.f5) (Code.ops (Code.p1 (Code.p2 (Code.p1 (Code.p1 (Code.p2 (Code.p2 (Code.p1 (Code.p1 (Code.p2 (Code.p1 (Code.p2 (Code.p2 (Code.p2 (codeOf Try.f5))))))))))))))) 6 K50 [(1, .int .i64 t1), (2, .int .i64 t2), (3, v3), (20, .agg t20), (21, .int .i64 t21), (29, .bool t29)] [] h_52 := by
                intro t29 h_52 hF
                rw [e53] at hF
                refine WL.nil (by kernel_rfl) ?_
                refine Go.weaken (l' := [(1, .int .i64 t1), (2, .int .i64 t2), (3, v3), (20, .agg t20), (21, .int .i64 t21), (29, .bool t29)]) (Fr.sub_cons (by kernel_rfl) (Fr.sub_cons (by kernel_rfl) (Fr.sub_cons (by kernel_rfl) (Fr.sub_cons (by kernel_rfl) (Fr.sub_cons (by kernel_rfl) (Fr.sub_cons (by kernel_rfl) (Fr.sub_nil _))))))) ?_
                refine n50 ?_
                cases t29 with
                | true =>
                  replace hF := ifB_t hF
                  refine W.cond_true (by kernel_rfl) (by kernel_rfl) ?_
                  refine W.seqK (by kernel_rfl) (fun K55 n55 e55 r55 p55 => ?_)
                  refine W.region (by kernel_rfl) ?_
                  refine WL.val (d := (some 6)) (v := .bool true) (h' := h_52) (by kernel_rfl) (by kernel_rfl) (by kernel_rfl) ?_
                  refine WL.nil (by kernel_rfl) ?_
                  refine Go.weaken (l' := [(6, .bool true)]) (Fr.sub_cons (by kernel_rfl) (Fr.sub_nil _)) ?_
                  refine n55 ?_
                  refine W.ret (by kernel_rfl) ?_
                  refine r45 ?_
                  refine r44 ?_
                  refine r39 ?_
                  refine r25 ?_
                  refine r21 ?_
                  obtain ⟨hF, hF2⟩ := ret_inj hF; subst hF; subst hF2
                  exact leave_of (rs := [.tmp 6]) (vs := [.bool true]) (by kernel_rfl) (res_tmp (by kernel_rfl) res_nil) (by kernel_rfl)
                | false =>
                  replace hF := ifB_f hF
                  refine W.cond_false (by kernel_rfl) (by kernel_rfl) ?_
                  refine W.skip (by kernel_rfl) ?_
                  refine n45 ?_
                  refine n44 ?_
                  refine W.region (by kernel_rfl) ?_
                  replace hF := lett_some hF; obtain ⟨t30, e56, hF⟩ := hF
                  refine WL.val (d := (some 30)) (v := .int .i64 t30) (h' := h_52) (by kernel_rfl) (by kernel_rfl) (val_of (AV.int .i64) e56 (by kernel_rfl)) ?_
                  refine WL.val (d := (some 21)) (v := .int .i64 t30) (h' := h_52) (by kernel_rfl) (by kernel_rfl) (by kernel_rfl) ?_
                  refine WL.nil (by kernel_rfl) ?_
                  refine Go.weaken (l' := [(1, .int .i64 t1), (2, .int .i64 t2), (3, v3), (20, .agg t20), (21, .int .i64 t30)]) (Fr.sub_cons (by kernel_rfl) (Fr.sub_cons (by kernel_rfl) (Fr.sub_cons (by kernel_rfl) (Fr.sub_cons (by kernel_rfl) (Fr.sub_cons (by kernel_rfl) (Fr.sub_nil _)))))) ?_
                  refine n39 ?_
                  exact Go.weaken (Fr.sub_cons (by kernel_rfl) (Fr.sub_cons (by kernel_rfl) (Fr.sub_cons (by kernel_rfl) (Fr.sub_cons (by kernel_rfl) (Fr.sub_cons (by kernel_rfl) (Fr.sub_nil _)))))) (ih39 _ _ hF)
              cases t25 with
              | true =>
                replace hF := ifB_t hF
                refine WL.not (d := (some 27)) (by kernel_rfl) (by kernel_rfl) ?_
                refine WL.not (d := (some 28)) (by kernel_rfl) (by kernel_rfl) ?_
                refine WL.val (d := (some 29)) (v := .bool true) (h' := h_47) (by kernel_rfl) (by kernel_rfl) (by kernel_rfl) ?_
                exact WL.weaken (Fr.sub_cons (by kernel_rfl) (Fr.sub_cons (by kernel_rfl) (Fr.sub_cons (by kernel_rfl) (Fr.sub_cons (by kernel_rfl) (Fr.sub_cons (by kernel_rfl) (Fr.sub_cons (by kernel_rfl) (Fr.sub_nil _))))))) (J54 _ _ hF)
              | false =>
                replace hF := ifB_f hF
                refine WL.val (d := (some 27)) (v := .int .i64 t23) (h' := h_47) (by kernel_rfl) (by kernel_rfl) (by kernel_rfl) ?_
                replace hF := lett_some hF; obtain ⟨t28, e57, hF⟩ := hF
                refine WL.val (d := (some 28)) (v := .bool t28) (h' := h_47) (by kernel_rfl) (by kernel_rfl) (val_of AV.bool e57 (by kernel_rfl)) ?_
                refine WL.val (d := (some 29)) (v := .bool t28) (h' := h_47) (by kernel_rfl) (by kernel_rfl) (by kernel_rfl) ?_
                exact WL.weaken (Fr.sub_cons (by kernel_rfl) (Fr.sub_cons (by kernel_rfl) (Fr.sub_cons (by kernel_rfl) (Fr.sub_cons (by kernel_rfl) (Fr.sub_cons (by kernel_rfl) (Fr.sub_cons (by kernel_rfl) (Fr.sub_nil _))))))) (J54 _ _ hF)
            | false =>
              replace hF := ifB_f hF
              refine W.cond_false (by kernel_rfl) (by kernel_rfl) ?_
              refine W.exit (by kernel_rfl) ?_
              refine e43 ?_
              refine e39 ?_
              refine s25 (by kernel_rfl) ?_
              exact Go.weaken (Fr.sub_cons (by kernel_rfl) (Fr.sub_cons (by kernel_rfl) (Fr.sub_cons (by kernel_rfl) (Fr.sub_nil _)))) (J26 _ hF)
        exact Go.weaken (Fr.sub_cons (by kernel_rfl) (Fr.sub_cons (by kernel_rfl) (Fr.sub_cons (by kernel_rfl) (Fr.sub_cons (by kernel_rfl) (Fr.sub_cons (by kernel_rfl) (Fr.sub_nil _)))))) (L39 _ _ _ hF)
    cases t13 with
    | true =>
      replace hF := ifB_t hF
      refine WL.not (d := (some 15)) (by kernel_rfl) (by kernel_rfl) ?_
      refine WL.not (d := (some 16)) (by kernel_rfl) (by kernel_rfl) ?_
      refine WL.not (d := (some 17)) (by kernel_rfl) (by kernel_rfl) ?_
      refine WL.val (d := (some 18)) (v := .bool true) (h' := h_6) (by kernel_rfl) (by kernel_rfl) (by kernel_rfl) ?_
      exact WL.weaken (Fr.sub_cons (by kernel_rfl) (Fr.sub_cons (by kernel_rfl) (Fr.sub_cons (by kernel_rfl) (Fr.sub_cons (by kernel_rfl) (Fr.sub_nil _))))) (J19 _ _ hF)
    | false =>
      replace hF := ifB_f hF
      replace hF := obind_some hF; obtain ⟨t15, e58, hF⟩ := hF
      refine WL.val (d := (some 15)) (v := t15) (h' := h_6) (by kernel_rfl) (by kernel_rfl) (Eq.trans (by kernel_rfl) (field_ptr (P := Try.prog) (h := h_6) (s := 32) (f := 6) (by kernel_rfl) e58)) ?_
      replace hF := obind_some hF; obtain ⟨v16, e59, hF⟩ := hF
      replace hF := obind_some hF; obtain ⟨t16, c60, hF⟩ := hF
      have c60 := avInt_some c60
      subst c60
      refine WL.val (d := (some 16)) (v := .int .i64 t16) (h' := h_6) (by kernel_rfl) (by kernel_rfl) (Eq.trans (by kernel_rfl) (load_cell (P := Try.prog) (h := h_6) (t := 3) (by kernel_rfl) e59)) ?_
      replace hF := lett_some hF; obtain ⟨t17, e61, hF⟩ := hF
      refine WL.val (d := (some 17)) (v := .bool t17) (h' := h_6) (by kernel_rfl) (by kernel_rfl) (val_of AV.bool e61 (by kernel_rfl)) ?_
      refine WL.val (d := (some 18)) (v := .bool t17) (h' := h_6) (by kernel_rfl) (by kernel_rfl) (by kernel_rfl) ?_
      exact WL.weaken (Fr.sub_cons (by kernel_rfl) (Fr.sub_cons (by kernel_rfl) (Fr.sub_cons (by kernel_rfl) (Fr.sub_cons (by kernel_rfl) (Fr.sub_nil _))))) (J19 _ _ hF)
noncomputable def law20_LeaseHolds_fn (call : CallF) (n : Nat) : FnT := fun args h => match args with
  | [x0, x1, x2] => obind (avAgg x0) fun t0 => obind (avInt .i64 x1) fun t1 => obind (avInt .i64 x2) fun t2 => law20_LeaseHolds call n t0 t1 t2 h
  | _ => none
set_option maxRecDepth 100000 in
theorem law20_LeaseHolds_fn_eq (call : CallF) (n : Nat) (t0 : List AV) (t1 : Int) (t2 : Int) (h : AHeap) : law20_LeaseHolds_fn call n [.agg t0, .int .i64 t1, .int .i64 t2] h = law20_LeaseHolds call n t0 t1 t2 h :=
  (Eq.trans (obind_eq (fun t0 => obind (avInt .i64 (.int .i64 t1)) fun t1 => obind (avInt .i64 (.int .i64 t2)) fun t2 => law20_LeaseHolds call n t0 t1 t2 h) (avAgg_agg t0)) (Eq.trans (obind_eq (fun t1 => obind (avInt .i64 (.int .i64 t2)) fun t2 => law20_LeaseHolds call n t0 t1 t2 h) (avInt_int .i64 t1)) (Eq.trans (obind_eq (fun t2 => law20_LeaseHolds call n t0 t1 t2 h) (avInt_int .i64 t2)) rfl)))
theorem law20_LeaseHolds_holds {call : CallF} (hc : SaysAll Try.prog call) (n : Nat) : Holds Try.prog 5 (law20_LeaseHolds_fn call n) := by
  intro args h r h2 e
  unfold law20_LeaseHolds_fn at e
  split at e
  · replace e := obind_some e; obtain ⟨t0, c0, e⟩ := e; have c0 := avAgg_some c0; subst c0
    replace e := obind_some e; obtain ⟨t1, c1, e⟩ := e; have c1 := avInt_some c1; subst c1
    replace e := obind_some e; obtain ⟨t2, c2, e⟩ := e; have c2 := avInt_some c2; subst c2
    exact law20_LeaseHolds_ok hc e
  · cases e

noncomputable def law20_within (_ : CallF) (_ : Nat) (t0 : Int) (t1 : Int) (h : AHeap) : R :=
  lett (IntKind.i64.wrap (1000 - t1)) fun (t6 : Int) =>
  lett (andI .i64 t0 65535) fun (t8 : Int) =>
  lett (IntKind.i64.wrap (2 * t1)) fun (t10 : Int) =>
  lett (IntKind.i64.wrap (t10 + 1)) fun (t11 : Int) =>
  obind (remI .i64 t8 t11) fun t12 =>
  lett (IntKind.i64.wrap (t6 + t12)) fun (t13 : Int) =>
  some (.ret (.int .i64 t13), h)
set_option maxHeartbeats 4000000 in
set_option maxRecDepth 20000 in
theorem law20_within_ok {call : CallF} (_ : SaysAll Try.prog call) {n : Nat} {t0 : Int} {t1 : Int} {h : AHeap} {rR : ARes} {hR : AHeap} (hF : law20_within call n t0 t1 h = some (rR, hR)) : Says Try.prog 16 [.int .i64 t0, .int .i64 t1] h rR hR := by
  unfold law20_within at hF
  refine says_of (fn := Try.f16) Try.func16 (c := codeOf Try.f16) (by kernel_rfl) (by kernel_rfl) (fun w0 m0 => ?_)
  refine W.weaken (l' := [(0, .int .i64 t0), (1, .int .i64 t1)]) (Fr.sub_cons (by kernel_rfl) (Fr.sub_cons (by kernel_rfl) (Fr.sub_nil _))) ?_
  refine W.seqK (by kernel_rfl) (fun K1 n1 e1 r1 p1 => ?_)
  refine W.region (by kernel_rfl) ?_
  refine WL.val (d := (some 4)) (v := .int .i64 0) (h' := h) (by kernel_rfl) (by kernel_rfl) (by kernel_rfl) ?_
  refine WL.nil (by kernel_rfl) ?_
  refine Go.weaken (l' := [(0, .int .i64 t0), (1, .int .i64 t1)]) (Fr.sub_cons (by kernel_rfl) (Fr.sub_cons (by kernel_rfl) (Fr.sub_nil _))) ?_
  refine n1 ?_
  refine W.seqK (by kernel_rfl) (fun K2 n2 e2 r2 p2 => ?_)
  refine W.region (by kernel_rfl) ?_
  refine WL.val (d := (some 5)) (v := .int .i64 t1) (h' := h) (by kernel_rfl) (by kernel_rfl) (by kernel_rfl) ?_
  replace hF := lett_some hF; obtain ⟨t6, e3, hF⟩ := hF
  refine WL.val (d := (some 6)) (v := .int .i64 t6) (h' := h) (by kernel_rfl) (by kernel_rfl) (val_of (AV.int .i64) e3 (by kernel_rfl)) ?_
  refine WL.val (d := (some 7)) (v := .int .i64 t0) (h' := h) (by kernel_rfl) (by kernel_rfl) (by kernel_rfl) ?_
  replace hF := lett_some hF; obtain ⟨t8, e4, hF⟩ := hF
  refine WL.val (d := (some 8)) (v := .int .i64 t8) (h' := h) (by kernel_rfl) (by kernel_rfl) (val_of (AV.int .i64) e4 (by kernel_rfl)) ?_
  refine WL.val (d := (some 9)) (v := .int .i64 t1) (h' := h) (by kernel_rfl) (by kernel_rfl) (by kernel_rfl) ?_
  replace hF := lett_some hF; obtain ⟨t10, e5, hF⟩ := hF
  refine WL.val (d := (some 10)) (v := .int .i64 t10) (h' := h) (by kernel_rfl) (by kernel_rfl) (val_of (AV.int .i64) e5 (by kernel_rfl)) ?_
  replace hF := lett_some hF; obtain ⟨t11, e6, hF⟩ := hF
  refine WL.val (d := (some 11)) (v := .int .i64 t11) (h' := h) (by kernel_rfl) (by kernel_rfl) (val_of (AV.int .i64) e6 (by kernel_rfl)) ?_
  replace hF := obind_some hF; obtain ⟨t12, e7, hF⟩ := hF
  refine WL.val (d := (some 12)) (v := .int .i64 t12) (h' := h) (by kernel_rfl) (by kernel_rfl) (Eq.trans (by kernel_rfl) (rem_int (P := Try.prog) (h := h) (t := 3) (lit := false) e7)) ?_
  replace hF := lett_some hF; obtain ⟨t13, e8, hF⟩ := hF
  refine WL.val (d := (some 13)) (v := .int .i64 t13) (h' := h) (by kernel_rfl) (by kernel_rfl) (val_of (AV.int .i64) e8 (by kernel_rfl)) ?_
  refine WL.val (d := (some 4)) (v := .int .i64 t13) (h' := h) (by kernel_rfl) (by kernel_rfl) (by kernel_rfl) ?_
  refine WL.nil (by kernel_rfl) ?_
  refine Go.weaken (l' := [(4, .int .i64 t13)]) (Fr.sub_cons (by kernel_rfl) (Fr.sub_nil _)) ?_
  refine n2 ?_
  refine W.ret (by kernel_rfl) ?_
  obtain ⟨hF, hF2⟩ := ret_inj hF; subst hF; subst hF2
  exact leave_of (rs := [.tmp 4]) (vs := [.int .i64 t13]) (by kernel_rfl) (res_tmp (by kernel_rfl) res_nil) (by kernel_rfl)
noncomputable def law20_within_fn (call : CallF) (n : Nat) : FnT := fun args h => match args with
  | [x0, x1] => obind (avInt .i64 x0) fun t0 => obind (avInt .i64 x1) fun t1 => law20_within call n t0 t1 h
  | _ => none
set_option maxRecDepth 100000 in
theorem law20_within_fn_eq (call : CallF) (n : Nat) (t0 : Int) (t1 : Int) (h : AHeap) : law20_within_fn call n [.int .i64 t0, .int .i64 t1] h = law20_within call n t0 t1 h :=
  (Eq.trans (obind_eq (fun t0 => obind (avInt .i64 (.int .i64 t1)) fun t1 => law20_within call n t0 t1 h) (avInt_int .i64 t0)) (Eq.trans (obind_eq (fun t1 => law20_within call n t0 t1 h) (avInt_int .i64 t1)) rfl))
theorem law20_within_holds {call : CallF} (hc : SaysAll Try.prog call) (n : Nat) : Holds Try.prog 16 (law20_within_fn call n) := by
  intro args h r h2 e
  unfold law20_within_fn at e
  split at e
  · replace e := obind_some e; obtain ⟨t0, c0, e⟩ := e; have c0 := avInt_some c0; subst c0
    replace e := obind_some e; obtain ⟨t1, c1, e⟩ := e; have c1 := avInt_some c1; subst c1
    exact law20_within_ok hc e
  · cases e

noncomputable def lease_Span (_ : CallF) (_ : Nat) (t0 : Int) (h : AHeap) : R :=
  lett (decide (t0 < 0)) fun (t6 : Bool) =>
  lett (fun (t10 : Bool) (h_5 : AHeap) =>
    ifB t10
    (
      some (.ret (.tup [.int .i64 0, .int .i64 2]), h_5))
    (
      lett (IntKind.i64.wrap (1000 - t0)) fun (t12 : Int) =>
      lett (IntKind.i64.wrap (19 * t12)) fun (t13 : Int) =>
      lett (IntKind.i64.wrap (1000 + t0)) fun (t15 : Int) =>
      obind (quoI .i64 t13 t15) fun t16 =>
      lett (IntKind.i64.wrap (t16 - 1)) fun (t17 : Int) =>
      lett (if 0 > t17 then 0 else t17) fun (t19 : Int) =>
      some (.ret (.tup [.int .i64 t19, .int .i64 0]), h_5))) fun j10 =>
  ifB t6
  (
    j10 true h)
  (
    lett (decide (t0 > 500)) fun (t9 : Bool) =>
    j10 t9 h)
set_option maxHeartbeats 4000000 in
set_option maxRecDepth 20000 in
theorem lease_Span_ok {call : CallF} (_ : SaysAll Try.prog call) {n : Nat} {t0 : Int} {h : AHeap} {rR : ARes} {hR : AHeap} (hF : lease_Span call n t0 h = some (rR, hR)) : Says Try.prog 9 [.int .i64 t0] h rR hR := by
  unfold lease_Span at hF
  refine says_of (fn := Try.f9) Try.func9 (c := codeOf Try.f9) (by kernel_rfl) (by kernel_rfl) (fun w0 m0 => ?_)
  refine W.weaken (l' := [(0, .int .i64 t0)]) (Fr.sub_cons (by kernel_rfl) (Fr.sub_nil _)) ?_
  refine W.seqK (by kernel_rfl) (fun K1 n1 e1 r1 p1 => ?_)
  refine W.region (by kernel_rfl) ?_
  refine WL.val (d := (some 2)) (v := .int .i64 0) (h' := h) (by kernel_rfl) (by kernel_rfl) (by kernel_rfl) ?_
  refine WL.val (d := (some 3)) (v := .int .i64 0) (h' := h) (by kernel_rfl) (by kernel_rfl) (by kernel_rfl) ?_
  refine WL.nil (by kernel_rfl) ?_
  refine Go.weaken (l' := [(0, .int .i64 t0)]) (Fr.sub_cons (by kernel_rfl) (Fr.sub_nil _)) ?_
  refine n1 ?_
  refine W.seqK (by kernel_rfl) (fun K2 n2 e2 r2 p2 => ?_)
  refine W.seqK (by kernel_rfl) (fun K3 n3 e3 r3 p3 => ?_)
  refine W.region (by kernel_rfl) ?_
  refine WL.val (d := (some 5)) (v := .int .i64 t0) (h' := h) (by kernel_rfl) (by kernel_rfl) (by kernel_rfl) ?_
  replace hF := lett_some hF; obtain ⟨t6, e4, hF⟩ := hF
  refine WL.val (d := (some 6)) (v := .bool t6) (h' := h) (by kernel_rfl) (by kernel_rfl) (val_of AV.bool e4 (by kernel_rfl)) ?_
  refine WL.val (d := (some 7)) (v := .bool t6) (h' := h) (by kernel_rfl) (by kernel_rfl) (by kernel_rfl) ?_
  replace hF := lett_some hF; obtain ⟨j10, e6, hF⟩ := hF
  have J7 : ∀ (t10 : Bool) (h_5 : AHeap), j10 t10 h_5 = some (rR, hR) → WL Try.prog w0 m0 (Func.ntmps Try.f9) (Code.ops (Code.p1 (Code.p1 (Code.p2 (codeOf Try.f9))))) 6 K3 [(0, .int .i64 t0), (10, .bool t10)] [] h_5 := by
    intro t10 h_5 hF
    rw [e6] at hF
    refine WL.nil (by kernel_rfl) ?_
    refine Go.weaken (l' := [(0, .int .i64 t0), (10, .bool t10)]) (Fr.sub_cons (by kernel_rfl) (Fr.sub_cons (by kernel_rfl) (Fr.sub_nil _))) ?_
    refine n3 ?_
    cases t10 with
    | true =>
      replace hF := ifB_t hF
      refine W.cond_true (by kernel_rfl) (by kernel_rfl) ?_
      refine W.seqK (by kernel_rfl) (fun K8 n8 e8 r8 p8 => ?_)
      refine W.region (by kernel_rfl) ?_
      refine WL.val (d := (some 2)) (v := .int .i64 0) (h' := h_5) (by kernel_rfl) (by kernel_rfl) (by kernel_rfl) ?_
      refine WL.val (d := (some 3)) (v := .int .i64 2) (h' := h_5) (by kernel_rfl) (by kernel_rfl) (by kernel_rfl) ?_
      refine WL.nil (by kernel_rfl) ?_
      refine Go.weaken (l' := [(2, .int .i64 0), (3, .int .i64 2)]) (Fr.sub_cons (by kernel_rfl) (Fr.sub_cons (by kernel_rfl) (Fr.sub_nil _))) ?_
      refine n8 ?_
      refine W.ret (by kernel_rfl) ?_
      refine r2 ?_
      obtain ⟨hF, hF2⟩ := ret_inj hF; subst hF; subst hF2
      exact leave_of (rs := [.tmp 2, .tmp 3]) (vs := [.int .i64 0, .int .i64 2]) (by kernel_rfl) (res_tmp (by kernel_rfl) (res_tmp (by kernel_rfl) res_nil)) (by kernel_rfl)
    | false =>
      replace hF := ifB_f hF
      refine W.cond_false (by kernel_rfl) (by kernel_rfl) ?_
      refine W.skip (by kernel_rfl) ?_
      refine n2 ?_
      refine W.seqK (by kernel_rfl) (fun K9 n9 e9 r9 p9 => ?_)
      refine W.region (by kernel_rfl) ?_
      refine WL.val (d := (some 11)) (v := .int .i64 t0) (h' := h_5) (by kernel_rfl) (by kernel_rfl) (by kernel_rfl) ?_
      replace hF := lett_some hF; obtain ⟨t12, e10, hF⟩ := hF
      refine WL.val (d := (some 12)) (v := .int .i64 t12) (h' := h_5) (by kernel_rfl) (by kernel_rfl) (val_of (AV.int .i64) e10 (by kernel_rfl)) ?_
      replace hF := lett_some hF; obtain ⟨t13, e11, hF⟩ := hF
      refine WL.val (d := (some 13)) (v := .int .i64 t13) (h' := h_5) (by kernel_rfl) (by kernel_rfl) (val_of (AV.int .i64) e11 (by kernel_rfl)) ?_
      refine WL.val (d := (some 14)) (v := .int .i64 t0) (h' := h_5) (by kernel_rfl) (by kernel_rfl) (by kernel_rfl) ?_
      replace hF := lett_some hF; obtain ⟨t15, e12, hF⟩ := hF
      refine WL.val (d := (some 15)) (v := .int .i64 t15) (h' := h_5) (by kernel_rfl) (by kernel_rfl) (val_of (AV.int .i64) e12 (by kernel_rfl)) ?_
      replace hF := obind_some hF; obtain ⟨t16, e13, hF⟩ := hF
      refine WL.val (d := (some 16)) (v := .int .i64 t16) (h' := h_5) (by kernel_rfl) (by kernel_rfl) (Eq.trans (by kernel_rfl) (quo_int (P := Try.prog) (h := h_5) (t := 3) (lit := false) e13)) ?_
      replace hF := lett_some hF; obtain ⟨t17, e14, hF⟩ := hF
      refine WL.val (d := (some 17)) (v := .int .i64 t17) (h' := h_5) (by kernel_rfl) (by kernel_rfl) (val_of (AV.int .i64) e14 (by kernel_rfl)) ?_
      refine WL.val (d := (some 4)) (v := .int .i64 t17) (h' := h_5) (by kernel_rfl) (by kernel_rfl) (by kernel_rfl) ?_
      refine WL.nil (by kernel_rfl) ?_
      refine Go.weaken (l' := [(4, .int .i64 t17)]) (Fr.sub_cons (by kernel_rfl) (Fr.sub_nil _)) ?_
      refine n9 ?_
      refine W.seqK (by kernel_rfl) (fun K15 n15 e15 r15 p15 => ?_)
      refine W.region (by kernel_rfl) ?_
      refine WL.val (d := (some 18)) (v := .int .i64 t17) (h' := h_5) (by kernel_rfl) (by kernel_rfl) (by kernel_rfl) ?_
      replace hF := lett_some hF; obtain ⟨t19, e16, hF⟩ := hF
      refine WL.val (d := (some 19)) (v := .int .i64 t19) (h' := h_5) (by kernel_rfl) (by kernel_rfl) (val_of (AV.int .i64) e16 (by kernel_rfl)) ?_
      refine WL.val (d := (some 2)) (v := .int .i64 t19) (h' := h_5) (by kernel_rfl) (by kernel_rfl) (by kernel_rfl) ?_
      refine WL.val (d := (some 3)) (v := .int .i64 0) (h' := h_5) (by kernel_rfl) (by kernel_rfl) (by kernel_rfl) ?_
      refine WL.nil (by kernel_rfl) ?_
      refine Go.weaken (l' := [(2, .int .i64 t19), (3, .int .i64 0)]) (Fr.sub_cons (by kernel_rfl) (Fr.sub_cons (by kernel_rfl) (Fr.sub_nil _))) ?_
      refine n15 ?_
      refine W.ret (by kernel_rfl) ?_
      obtain ⟨hF, hF2⟩ := ret_inj hF; subst hF; subst hF2
      exact leave_of (rs := [.tmp 2, .tmp 3]) (vs := [.int .i64 t19, .int .i64 0]) (by kernel_rfl) (res_tmp (by kernel_rfl) (res_tmp (by kernel_rfl) res_nil)) (by kernel_rfl)
  cases t6 with
  | true =>
    replace hF := ifB_t hF
    refine WL.not (d := (some 8)) (by kernel_rfl) (by kernel_rfl) ?_
    refine WL.not (d := (some 9)) (by kernel_rfl) (by kernel_rfl) ?_
    refine WL.val (d := (some 10)) (v := .bool true) (h' := h) (by kernel_rfl) (by kernel_rfl) (by kernel_rfl) ?_
    exact WL.weaken (Fr.sub_cons (by kernel_rfl) (Fr.sub_cons (by kernel_rfl) (Fr.sub_nil _))) (J7 _ _ hF)
  | false =>
    replace hF := ifB_f hF
    refine WL.val (d := (some 8)) (v := .int .i64 t0) (h' := h) (by kernel_rfl) (by kernel_rfl) (by kernel_rfl) ?_
    replace hF := lett_some hF; obtain ⟨t9, e17, hF⟩ := hF
    refine WL.val (d := (some 9)) (v := .bool t9) (h' := h) (by kernel_rfl) (by kernel_rfl) (val_of AV.bool e17 (by kernel_rfl)) ?_
    refine WL.val (d := (some 10)) (v := .bool t9) (h' := h) (by kernel_rfl) (by kernel_rfl) (by kernel_rfl) ?_
    exact WL.weaken (Fr.sub_cons (by kernel_rfl) (Fr.sub_cons (by kernel_rfl) (Fr.sub_nil _))) (J7 _ _ hF)
noncomputable def lease_Span_fn (call : CallF) (n : Nat) : FnT := fun args h => match args with
  | [x0] => obind (avInt .i64 x0) fun t0 => lease_Span call n t0 h
  | _ => none
set_option maxRecDepth 100000 in
theorem lease_Span_fn_eq (call : CallF) (n : Nat) (t0 : Int) (h : AHeap) : lease_Span_fn call n [.int .i64 t0] h = lease_Span call n t0 h :=
  (Eq.trans (obind_eq (fun t0 => lease_Span call n t0 h) (avInt_int .i64 t0)) rfl)
theorem lease_Span_holds {call : CallF} (hc : SaysAll Try.prog call) (n : Nat) : Holds Try.prog 9 (lease_Span_fn call n) := by
  intro args h r h2 e
  unfold lease_Span_fn at e
  split at e
  · replace e := obind_some e; obtain ⟨t0, c0, e⟩ := e; have c0 := avInt_some c0; subst c0
    exact lease_Span_ok hc e
  · cases e

noncomputable def lease_Held (call : CallF) (_ : Nat) (t0 : List AV) (t1 : Int) (t2 : Int) (h : AHeap) : R :=
  outK (opBox h 32 (some (.agg t0))) fun v3 h_2 =>
  callN (call 9 [.int .i64 t2] h_2) fun r11 h_5 =>
  obind (extT 0 r11) fun v12 =>
  obind (avInt .i64 v12) fun t12 =>
  obind (extT 1 r11) fun v13 =>
  obind (avInt .i64 v13) fun t13 =>
  lett ((t13 : Int) != 0) fun (t15 : Bool) =>
  lett (fun (t19 : Bool) (h_14 : AHeap) =>
    lett (fun (t23 : Bool) (h_17 : AHeap) =>
      ifB t23
      (
        some (.ret (.bool false), h_17))
      (
        obind (fldP 0 v3) fun t24 =>
        obind (ldCell h_17 t24) fun v25 =>
        obind (avInt .u8 v25) fun t25 =>
        lett ((t25 : Int) == 3) fun (t26 : Bool) =>
        lett (fun (t30 : Bool) (h_26 : AHeap) =>
          lett (fun (t39 : Bool) (h_29 : AHeap) =>
            some (.ret (.bool t39), h_29)) fun j39 =>
          ifB t30
          (
            obind (fldP 10 v3) fun t32 =>
            obind (ldRow h_26 3 t32) fun t33 =>
            obind (fldP 8 v3) fun t35 =>
            obind (ldCell h_26 t35) fun v36 =>
            obind (avInt .i64 v36) fun t36 =>
            callN (call 21 [.agg t33, .int .i64 t1, .int .i64 t36, .int .i64 t12] h_26) fun r38 h_37 =>
            obind (avBool r38) fun t38 =>
            j39 t38 h_37)
          (
            j39 false h_26)) fun j30 =>
        ifB t26
        (
          obind (fldP 9 v3) fun t28 =>
          obind (ldCell h_17 t28) fun v29 =>
          obind (avBool v29) fun t29 =>
          j30 t29 h_17)
        (
          j30 false h_17))) fun j23 =>
    ifB t19
    (
      j23 true h_14)
    (
      lett (decide (t1 ≥ 3)) fun (t22 : Bool) =>
      j23 t22 h_14)) fun j19 =>
  ifB t15
  (
    j19 true h_5)
  (
    lett (decide (t1 < 0)) fun (t18 : Bool) =>
    j19 t18 h_5)
set_option maxHeartbeats 4000000 in
set_option maxRecDepth 20000 in
theorem lease_Held_ok {call : CallF} (hc : SaysAll Try.prog call) {n : Nat} {t0 : List AV} {t1 : Int} {t2 : Int} {h : AHeap} {rR : ARes} {hR : AHeap} (hF : lease_Held call n t0 t1 t2 h = some (rR, hR)) : Says Try.prog 12 [.agg t0, .int .i64 t1, .int .i64 t2] h rR hR := by
  unfold lease_Held at hF
  refine says_of (fn := Try.f12) Try.func12 (c := codeOf Try.f12) (by kernel_rfl) (by kernel_rfl) (fun w0 m0 => ?_)
  refine W.weaken (l' := [(0, .agg t0), (1, .int .i64 t1), (2, .int .i64 t2)]) (Fr.sub_cons (by kernel_rfl) (Fr.sub_cons (by kernel_rfl) (Fr.sub_cons (by kernel_rfl) (Fr.sub_nil _)))) ?_
  refine W.seqK (by kernel_rfl) (fun K1 n1 e1 r1 p1 => ?_)
  refine W.region (by kernel_rfl) ?_
  replace hF := outK_some hF; obtain ⟨v3, h_2, e3, hF⟩ := hF
  refine WL.val (d := (some 3)) (v := v3) (h' := h_2) (by kernel_rfl) (by kernel_rfl) (Eq.trans (by kernel_rfl) e3) ?_
  refine WL.val (d := (some 6)) (v := .bool false) (h' := h_2) (by kernel_rfl) (by kernel_rfl) (by kernel_rfl) ?_
  refine WL.nil (by kernel_rfl) ?_
  refine Go.weaken (l' := [(1, .int .i64 t1), (2, .int .i64 t2), (3, v3)]) (Fr.sub_cons (by kernel_rfl) (Fr.sub_cons (by kernel_rfl) (Fr.sub_cons (by kernel_rfl) (Fr.sub_nil _)))) ?_
  refine n1 ?_
  refine W.seqK (by kernel_rfl) (fun K4 n4 e4 r4 p4 => ?_)
  refine W.region (by kernel_rfl) ?_
  refine WL.val (d := (some 10)) (v := .int .i64 t2) (h' := h_2) (by kernel_rfl) (by kernel_rfl) (by kernel_rfl) ?_
  replace hF := callN_some hF; obtain ⟨r11, h_5, e6, hF⟩ := hF
  refine WL.call (hc.ok w0) (d := (some 11)) (by kernel_rfl) (by kernel_rfl) (by kernel_rfl) e6 ?_
  refine WL.val (d := (some 9)) (v := r11) (h' := h_5) (by kernel_rfl) (by kernel_rfl) (by kernel_rfl) ?_
  replace hF := obind_some hF; obtain ⟨v12, e7, hF⟩ := hF
  replace hF := obind_some hF; obtain ⟨t12, c8, hF⟩ := hF
  have c8 := avInt_some c8
  subst c8
  refine WL.val (d := (some 12)) (v := .int .i64 t12) (h' := h_5) (by kernel_rfl) (by kernel_rfl) (Eq.trans (by kernel_rfl) (extract_tup (h := h_5) e7)) ?_
  replace hF := obind_some hF; obtain ⟨v13, e9, hF⟩ := hF
  replace hF := obind_some hF; obtain ⟨t13, c10, hF⟩ := hF
  have c10 := avInt_some c10
  subst c10
  refine WL.val (d := (some 13)) (v := .int .i64 t13) (h' := h_5) (by kernel_rfl) (by kernel_rfl) (Eq.trans (by kernel_rfl) (extract_tup (h := h_5) e9)) ?_
  refine WL.val (d := (some 7)) (v := .int .i64 t12) (h' := h_5) (by kernel_rfl) (by kernel_rfl) (by kernel_rfl) ?_
  refine WL.val (d := (some 8)) (v := .int .i64 t13) (h' := h_5) (by kernel_rfl) (by kernel_rfl) (by kernel_rfl) ?_
  refine WL.nil (by kernel_rfl) ?_
  refine Go.weaken (l' := [(1, .int .i64 t1), (3, v3), (7, .int .i64 t12), (8, .int .i64 t13)]) (Fr.sub_cons (by kernel_rfl) (Fr.sub_cons (by kernel_rfl) (Fr.sub_cons (by kernel_rfl) (Fr.sub_cons (by kernel_rfl) (Fr.sub_nil _))))) ?_
  refine n4 ?_
  refine W.seqK (by kernel_rfl) (fun K11 n11 e11 r11 p11 => ?_)
  refine W.seqK (by kernel_rfl) (fun K12 n12 e12 r12 p12 => ?_)
  refine W.region (by kernel_rfl) ?_
  refine WL.val (d := (some 14)) (v := .int .i64 t13) (h' := h_5) (by kernel_rfl) (by kernel_rfl) (by kernel_rfl) ?_
  replace hF := lett_some hF; obtain ⟨t15, e13, hF⟩ := hF
  refine WL.val (d := (some 15)) (v := .bool t15) (h' := h_5) (by kernel_rfl) (by kernel_rfl) (val_of AV.bool e13 (by kernel_rfl)) ?_
  refine WL.val (d := (some 16)) (v := .bool t15) (h' := h_5) (by kernel_rfl) (by kernel_rfl) (by kernel_rfl) ?_
  replace hF := lett_some hF; obtain ⟨j19, e15, hF⟩ := hF
  have J16 : ∀ (t19 : Bool) (h_14 : AHeap), j19 t19 h_14 = some (rR, hR) → WL Try.prog w0 m0 (Func.ntmps Try.f12) (Code.ops (Code.p1 (Code.p1 (Code.p2 (Code.p2 (codeOf Try.f12)))))) 6 K12 [(1, .int .i64 t1), (3, v3), (7, .int .i64 t12), (19, .bool t19)] [] h_14 := by
    intro t19 h_14 hF
    rw [e15] at hF
    refine WL.val (d := (some 20)) (v := .bool t19) (h' := h_14) (by kernel_rfl) (by kernel_rfl) (by kernel_rfl) ?_
    replace hF := lett_some hF; obtain ⟨j23, e18, hF⟩ := hF
    have J19 : ∀ (t23 : Bool) (h_17 : AHeap), j23 t23 h_17 = some (rR, hR) → WL Try.prog w0 m0 (Func.ntmps Try.f12) (Code.ops (Code.p1 (Code.p1 (Code.p2 (Code.p2 (codeOf Try.f12)))))) 10 K12 [(1, .int .i64 t1), (3, v3), (7, .int .i64 t12), (23, .bool t23)] [] h_17 := by
      intro t23 h_17 hF
      rw [e18] at hF
      refine WL.nil (by kernel_rfl) ?_
      refine Go.weaken (l' := [(1, .int .i64 t1), (3, v3), (7, .int .i64 t12), (23, .bool t23)]) (Fr.sub_cons (by kernel_rfl) (Fr.sub_cons (by kernel_rfl) (Fr.sub_cons (by kernel_rfl) (Fr.sub_cons (by kernel_rfl) (Fr.sub_nil _))))) ?_
      refine n12 ?_
      cases t23 with
      | true =>
        replace hF := ifB_t hF
        refine W.cond_true (by kernel_rfl) (by kernel_rfl) ?_
        refine W.seqK (by kernel_rfl) (fun K20 n20 e20 r20 p20 => ?_)
        refine W.region (by kernel_rfl) ?_
        refine WL.val (d := (some 6)) (v := .bool false) (h' := h_17) (by kernel_rfl) (by kernel_rfl) (by kernel_rfl) ?_
        refine WL.nil (by kernel_rfl) ?_
        refine Go.weaken (l' := [(6, .bool false)]) (Fr.sub_cons (by kernel_rfl) (Fr.sub_nil _)) ?_
        refine n20 ?_
        refine W.ret (by kernel_rfl) ?_
        refine r11 ?_
        obtain ⟨hF, hF2⟩ := ret_inj hF; subst hF; subst hF2
        exact leave_of (rs := [.tmp 6]) (vs := [.bool false]) (by kernel_rfl) (res_tmp (by kernel_rfl) res_nil) (by kernel_rfl)
      | false =>
        replace hF := ifB_f hF
        refine W.cond_false (by kernel_rfl) (by kernel_rfl) ?_
        refine W.skip (by kernel_rfl) ?_
        refine n11 ?_
        refine W.seqK (by kernel_rfl) (fun K21 n21 e21 r21 p21 => ?_)
        refine W.region (by kernel_rfl) ?_
        replace hF := obind_some hF; obtain ⟨t24, e22, hF⟩ := hF
        refine WL.val (d := (some 24)) (v := t24) (h' := h_17) (by kernel_rfl) (by kernel_rfl) (Eq.trans (by kernel_rfl) (field_ptr (P := Try.prog) (h := h_17) (s := 32) (f := 0) (by kernel_rfl) e22)) ?_
        replace hF := obind_some hF; obtain ⟨v25, e23, hF⟩ := hF
        replace hF := obind_some hF; obtain ⟨t25, c24, hF⟩ := hF
        have c24 := avInt_some c24
        subst c24
        refine WL.val (d := (some 25)) (v := .int .u8 t25) (h' := h_17) (by kernel_rfl) (by kernel_rfl) (Eq.trans (by kernel_rfl) (load_cell (P := Try.prog) (h := h_17) (t := 5) (by kernel_rfl) e23)) ?_
        replace hF := lett_some hF; obtain ⟨t26, e25, hF⟩ := hF
        refine WL.val (d := (some 26)) (v := .bool t26) (h' := h_17) (by kernel_rfl) (by kernel_rfl) (val_of AV.bool e25 (by kernel_rfl)) ?_
        refine WL.val (d := (some 27)) (v := .bool t26) (h' := h_17) (by kernel_rfl) (by kernel_rfl) (by kernel_rfl) ?_
        replace hF := lett_some hF; obtain ⟨j30, e27, hF⟩ := hF
        have J28 : ∀ (t30 : Bool) (h_26 : AHeap), j30 t30 h_26 = some (rR, hR) → WL Try.prog w0 m0 (Func.ntmps Try.f12) (Code.ops (Code.p1 (Code.p2 (Code.p2 (Code.p2 (codeOf Try.f12)))))) 7 K21 [(1, .int .i64 t1), (3, v3), (7, .int .i64 t12), (30, .bool t30)] [] h_26 := by
          intro t30 h_26 hF
          rw [e27] at hF
          refine WL.val (d := (some 31)) (v := .bool t30) (h' := h_26) (by kernel_rfl) (by kernel_rfl) (by kernel_rfl) ?_
          replace hF := lett_some hF; obtain ⟨j39, e30, hF⟩ := hF
          have J31 : ∀ (t39 : Bool) (h_29 : AHeap), j39 t39 h_29 = some (rR, hR) → WL Try.prog w0 m0 (Func.ntmps Try.f12) (Code.ops (Code.p1 (Code.p2 (Code.p2 (Code.p2 (codeOf Try.f12)))))) 16 K21 [(39, .bool t39)] [] h_29 := by
            intro t39 h_29 hF
            rw [e30] at hF
            refine WL.val (d := (some 6)) (v := .bool t39) (h' := h_29) (by kernel_rfl) (by kernel_rfl) (by kernel_rfl) ?_
            refine WL.nil (by kernel_rfl) ?_
            refine Go.weaken (l' := [(6, .bool t39)]) (Fr.sub_cons (by kernel_rfl) (Fr.sub_nil _)) ?_
            refine n21 ?_
            refine W.ret (by kernel_rfl) ?_
            obtain ⟨hF, hF2⟩ := ret_inj hF; subst hF; subst hF2
            exact leave_of (rs := [.tmp 6]) (vs := [.bool t39]) (by kernel_rfl) (res_tmp (by kernel_rfl) res_nil) (by kernel_rfl)
          cases t30 with
          | true =>
            replace hF := ifB_t hF
            replace hF := obind_some hF; obtain ⟨t32, e32, hF⟩ := hF
            refine WL.val (d := (some 32)) (v := t32) (h' := h_26) (by kernel_rfl) (by kernel_rfl) (Eq.trans (by kernel_rfl) (field_ptr (P := Try.prog) (h := h_26) (s := 32) (f := 8) (by kernel_rfl) e32)) ?_
            replace hF := obind_some hF; obtain ⟨t33, e33, hF⟩ := hF
            refine WL.val (d := (some 33)) (v := .agg t33) (h' := h_26) (by kernel_rfl) (by kernel_rfl) (Eq.trans (by kernel_rfl) (load_row (P := Try.prog) (h := h_26) (t := 26) (by kernel_rfl) (by kernel_rfl) e33)) ?_
            refine WL.val (d := (some 34)) (v := .int .i64 t1) (h' := h_26) (by kernel_rfl) (by kernel_rfl) (by kernel_rfl) ?_
            replace hF := obind_some hF; obtain ⟨t35, e34, hF⟩ := hF
            refine WL.val (d := (some 35)) (v := t35) (h' := h_26) (by kernel_rfl) (by kernel_rfl) (Eq.trans (by kernel_rfl) (field_ptr (P := Try.prog) (h := h_26) (s := 32) (f := 6) (by kernel_rfl) e34)) ?_
            replace hF := obind_some hF; obtain ⟨v36, e35, hF⟩ := hF
            replace hF := obind_some hF; obtain ⟨t36, c36, hF⟩ := hF
            have c36 := avInt_some c36
            subst c36
            refine WL.val (d := (some 36)) (v := .int .i64 t36) (h' := h_26) (by kernel_rfl) (by kernel_rfl) (Eq.trans (by kernel_rfl) (load_cell (P := Try.prog) (h := h_26) (t := 3) (by kernel_rfl) e35)) ?_
            refine WL.val (d := (some 37)) (v := .int .i64 t12) (h' := h_26) (by kernel_rfl) (by kernel_rfl) (by kernel_rfl) ?_
            replace hF := callN_some hF; obtain ⟨r38, h_37, e38, hF⟩ := hF
            replace hF := obind_some hF; obtain ⟨t38, c39, hF⟩ := hF
            have c39 := avBool_some c39
            subst c39
            refine WL.call (hc.ok w0) (d := (some 38)) (by kernel_rfl) (by kernel_rfl) (by kernel_rfl) e38 ?_
            refine WL.val (d := (some 39)) (v := .bool t38) (h' := h_37) (by kernel_rfl) (by kernel_rfl) (by kernel_rfl) ?_
            exact WL.weaken (Fr.sub_cons (by kernel_rfl) (Fr.sub_nil _)) (J31 _ _ hF)
          | false =>
            replace hF := ifB_f hF
            refine WL.not (d := (some 32)) (by kernel_rfl) (by kernel_rfl) ?_
            refine WL.not (d := (some 33)) (by kernel_rfl) (by kernel_rfl) ?_
            refine WL.not (d := (some 34)) (by kernel_rfl) (by kernel_rfl) ?_
            refine WL.not (d := (some 35)) (by kernel_rfl) (by kernel_rfl) ?_
            refine WL.not (d := (some 36)) (by kernel_rfl) (by kernel_rfl) ?_
            refine WL.not (d := (some 37)) (by kernel_rfl) (by kernel_rfl) ?_
            refine WL.not (d := (some 38)) (by kernel_rfl) (by kernel_rfl) ?_
            refine WL.val (d := (some 39)) (v := .bool false) (h' := h_26) (by kernel_rfl) (by kernel_rfl) (by kernel_rfl) ?_
            exact WL.weaken (Fr.sub_cons (by kernel_rfl) (Fr.sub_nil _)) (J31 _ _ hF)
        cases t26 with
        | true =>
          replace hF := ifB_t hF
          replace hF := obind_some hF; obtain ⟨t28, e40, hF⟩ := hF
          refine WL.val (d := (some 28)) (v := t28) (h' := h_17) (by kernel_rfl) (by kernel_rfl) (Eq.trans (by kernel_rfl) (field_ptr (P := Try.prog) (h := h_17) (s := 32) (f := 7) (by kernel_rfl) e40)) ?_
          replace hF := obind_some hF; obtain ⟨v29, e41, hF⟩ := hF
          replace hF := obind_some hF; obtain ⟨t29, c42, hF⟩ := hF
          have c42 := avBool_some c42
          subst c42
          refine WL.val (d := (some 29)) (v := .bool t29) (h' := h_17) (by kernel_rfl) (by kernel_rfl) (Eq.trans (by kernel_rfl) (load_cell (P := Try.prog) (h := h_17) (t := 4) (by kernel_rfl) e41)) ?_
          refine WL.val (d := (some 30)) (v := .bool t29) (h' := h_17) (by kernel_rfl) (by kernel_rfl) (by kernel_rfl) ?_
          exact WL.weaken (Fr.sub_cons (by kernel_rfl) (Fr.sub_cons (by kernel_rfl) (Fr.sub_cons (by kernel_rfl) (Fr.sub_cons (by kernel_rfl) (Fr.sub_nil _))))) (J28 _ _ hF)
        | false =>
          replace hF := ifB_f hF
          refine WL.not (d := (some 28)) (by kernel_rfl) (by kernel_rfl) ?_
          refine WL.not (d := (some 29)) (by kernel_rfl) (by kernel_rfl) ?_
          refine WL.val (d := (some 30)) (v := .bool false) (h' := h_17) (by kernel_rfl) (by kernel_rfl) (by kernel_rfl) ?_
          exact WL.weaken (Fr.sub_cons (by kernel_rfl) (Fr.sub_cons (by kernel_rfl) (Fr.sub_cons (by kernel_rfl) (Fr.sub_cons (by kernel_rfl) (Fr.sub_nil _))))) (J28 _ _ hF)
    cases t19 with
    | true =>
      replace hF := ifB_t hF
      refine WL.not (d := (some 21)) (by kernel_rfl) (by kernel_rfl) ?_
      refine WL.not (d := (some 22)) (by kernel_rfl) (by kernel_rfl) ?_
      refine WL.val (d := (some 23)) (v := .bool true) (h' := h_14) (by kernel_rfl) (by kernel_rfl) (by kernel_rfl) ?_
      exact WL.weaken (Fr.sub_cons (by kernel_rfl) (Fr.sub_cons (by kernel_rfl) (Fr.sub_cons (by kernel_rfl) (Fr.sub_cons (by kernel_rfl) (Fr.sub_nil _))))) (J19 _ _ hF)
    | false =>
      replace hF := ifB_f hF
      refine WL.val (d := (some 21)) (v := .int .i64 t1) (h' := h_14) (by kernel_rfl) (by kernel_rfl) (by kernel_rfl) ?_
      replace hF := lett_some hF; obtain ⟨t22, e43, hF⟩ := hF
      refine WL.val (d := (some 22)) (v := .bool t22) (h' := h_14) (by kernel_rfl) (by kernel_rfl) (val_of AV.bool e43 (by kernel_rfl)) ?_
      refine WL.val (d := (some 23)) (v := .bool t22) (h' := h_14) (by kernel_rfl) (by kernel_rfl) (by kernel_rfl) ?_
      exact WL.weaken (Fr.sub_cons (by kernel_rfl) (Fr.sub_cons (by kernel_rfl) (Fr.sub_cons (by kernel_rfl) (Fr.sub_cons (by kernel_rfl) (Fr.sub_nil _))))) (J19 _ _ hF)
  cases t15 with
  | true =>
    replace hF := ifB_t hF
    refine WL.not (d := (some 17)) (by kernel_rfl) (by kernel_rfl) ?_
    refine WL.not (d := (some 18)) (by kernel_rfl) (by kernel_rfl) ?_
    refine WL.val (d := (some 19)) (v := .bool true) (h' := h_5) (by kernel_rfl) (by kernel_rfl) (by kernel_rfl) ?_
    exact WL.weaken (Fr.sub_cons (by kernel_rfl) (Fr.sub_cons (by kernel_rfl) (Fr.sub_cons (by kernel_rfl) (Fr.sub_cons (by kernel_rfl) (Fr.sub_nil _))))) (J16 _ _ hF)
  | false =>
    replace hF := ifB_f hF
    refine WL.val (d := (some 17)) (v := .int .i64 t1) (h' := h_5) (by kernel_rfl) (by kernel_rfl) (by kernel_rfl) ?_
    replace hF := lett_some hF; obtain ⟨t18, e44, hF⟩ := hF
    refine WL.val (d := (some 18)) (v := .bool t18) (h' := h_5) (by kernel_rfl) (by kernel_rfl) (val_of AV.bool e44 (by kernel_rfl)) ?_
    refine WL.val (d := (some 19)) (v := .bool t18) (h' := h_5) (by kernel_rfl) (by kernel_rfl) (by kernel_rfl) ?_
    exact WL.weaken (Fr.sub_cons (by kernel_rfl) (Fr.sub_cons (by kernel_rfl) (Fr.sub_cons (by kernel_rfl) (Fr.sub_cons (by kernel_rfl) (Fr.sub_nil _))))) (J16 _ _ hF)
noncomputable def lease_Held_fn (call : CallF) (n : Nat) : FnT := fun args h => match args with
  | [x0, x1, x2] => obind (avAgg x0) fun t0 => obind (avInt .i64 x1) fun t1 => obind (avInt .i64 x2) fun t2 => lease_Held call n t0 t1 t2 h
  | _ => none
set_option maxRecDepth 100000 in
theorem lease_Held_fn_eq (call : CallF) (n : Nat) (t0 : List AV) (t1 : Int) (t2 : Int) (h : AHeap) : lease_Held_fn call n [.agg t0, .int .i64 t1, .int .i64 t2] h = lease_Held call n t0 t1 t2 h :=
  (Eq.trans (obind_eq (fun t0 => obind (avInt .i64 (.int .i64 t1)) fun t1 => obind (avInt .i64 (.int .i64 t2)) fun t2 => lease_Held call n t0 t1 t2 h) (avAgg_agg t0)) (Eq.trans (obind_eq (fun t1 => obind (avInt .i64 (.int .i64 t2)) fun t2 => lease_Held call n t0 t1 t2 h) (avInt_int .i64 t1)) (Eq.trans (obind_eq (fun t2 => lease_Held call n t0 t1 t2 h) (avInt_int .i64 t2)) rfl)))
theorem lease_Held_holds {call : CallF} (hc : SaysAll Try.prog call) (n : Nat) : Holds Try.prog 12 (lease_Held_fn call n) := by
  intro args h r h2 e
  unfold lease_Held_fn at e
  split at e
  · replace e := obind_some e; obtain ⟨t0, c0, e⟩ := e; have c0 := avAgg_some c0; subst c0
    replace e := obind_some e; obtain ⟨t1, c1, e⟩ := e; have c1 := avInt_some c1; subst c1
    replace e := obind_some e; obtain ⟨t2, c2, e⟩ := e; have c2 := avInt_some c2; subst c2
    exact lease_Held_ok hc e
  · cases e

noncomputable def lease_heardLately_L0b (t1 : Int) (t2 : Int) (t3 : Int) (t11 : List AV) (k8 : AHeap → R) (self : Int → AHeap → R) (t12 : Int) (h_12 : AHeap) : R :=
  lett (decide (t12 < 3)) fun (t13 : Bool) =>
  ifB t13
  (
    outK (opIndex Try.prog h_12 26 (some (.agg t11)) (some (.int .i64 t12))) fun v15 h_19 =>
    obind (avInt .i64 v15) fun t15 =>
    lett ((t12 : Int) != t1) fun (t18 : Bool) =>
    lett (fun (t23 : Bool) (h_24 : AHeap) =>
      lett (fun (t33 : Bool) (h_27 : AHeap) =>
        ifB t33
        (
          some (.ret (.bool true), h_27))
        (
          lett (IntKind.i64.wrap (t12 + 1)) fun (t34 : Int) =>
          self t34 h_27)) fun j33 =>
      ifB t23
      (
        lett (IntKind.u64.wrap t2) fun (t26 : Int) =>
        lett (IntKind.u64.wrap t15) fun (t28 : Int) =>
        lett (IntKind.u64.wrap (t26 - t28)) fun (t29 : Int) =>
        lett (IntKind.u64.wrap t3) fun (t31 : Int) =>
        lett (decide (t29 < t31)) fun (t32 : Bool) =>
        j33 t32 h_24)
      (
        j33 false h_24)) fun j23 =>
    ifB t18
    (
      lett (decide (t15 ≤ t2)) fun (t22 : Bool) =>
      j23 t22 h_19)
    (
      j23 false h_19))
  (
    k8 h_12)
noncomputable def lease_heardLately_L0 (t1 : Int) (t2 : Int) (t3 : Int) (t11 : List AV) (k8 : AHeap → R) : Nat → Int → AHeap → R := iterR (fun _ _ => none) (lease_heardLately_L0b t1 t2 t3 t11 k8)
theorem lease_heardLately_L0_s (t1 : Int) (t2 : Int) (t3 : Int) (t11 : List AV) (k8 : AHeap → R) (m : Nat) : lease_heardLately_L0 t1 t2 t3 t11 k8 (m + 1) = lease_heardLately_L0b t1 t2 t3 t11 k8 (lease_heardLately_L0 t1 t2 t3 t11 k8 m) := rfl
noncomputable def lease_heardLately (_ : CallF) (n : Nat) (t0 : List AV) (t1 : Int) (t2 : Int) (t3 : Int) (h : AHeap) : R :=
  outK (opBox h 26 (some (.agg t0))) fun v4 h_2 =>
  obind (ldRow h_2 3 v4) fun t11 =>
  lett (fun  (h_9 : AHeap) =>
    some (.ret (.bool false), h_9)) fun k8 =>
  lease_heardLately_L0 t1 t2 t3 t11 k8 n 0 h_2
set_option maxHeartbeats 4000000 in
set_option maxRecDepth 20000 in
theorem lease_heardLately_ok {call : CallF} (_ : SaysAll Try.prog call) {n : Nat} {t0 : List AV} {t1 : Int} {t2 : Int} {t3 : Int} {h : AHeap} {rR : ARes} {hR : AHeap} (hF : lease_heardLately call n t0 t1 t2 t3 h = some (rR, hR)) : Says Try.prog 21 [.agg t0, .int .i64 t1, .int .i64 t2, .int .i64 t3] h rR hR := by
  unfold lease_heardLately at hF
  refine says_of (fn := Try.f21) Try.func21 (c := codeOf Try.f21) (by kernel_rfl) (by kernel_rfl) (fun w0 m0 => ?_)
  refine W.weaken (l' := [(0, .agg t0), (1, .int .i64 t1), (2, .int .i64 t2), (3, .int .i64 t3)]) (Fr.sub_cons (by kernel_rfl) (Fr.sub_cons (by kernel_rfl) (Fr.sub_cons (by kernel_rfl) (Fr.sub_cons (by kernel_rfl) (Fr.sub_nil _))))) ?_
  refine W.seqK (by kernel_rfl) (fun K1 n1 e1 r1 p1 => ?_)
  refine W.region (by kernel_rfl) ?_
  replace hF := outK_some hF; obtain ⟨v4, h_2, e3, hF⟩ := hF
  refine WL.val (d := (some 4)) (v := v4) (h' := h_2) (by kernel_rfl) (by kernel_rfl) (Eq.trans (by kernel_rfl) e3) ?_
  refine WL.val (d := (some 8)) (v := .bool false) (h' := h_2) (by kernel_rfl) (by kernel_rfl) (by kernel_rfl) ?_
  refine WL.nil (by kernel_rfl) ?_
  refine Go.weaken (l' := [(1, .int .i64 t1), (2, .int .i64 t2), (3, .int .i64 t3), (4, v4)]) (Fr.sub_cons (by kernel_rfl) (Fr.sub_cons (by kernel_rfl) (Fr.sub_cons (by kernel_rfl) (Fr.sub_cons (by kernel_rfl) (Fr.sub_nil _))))) ?_
  refine n1 ?_
  refine W.seqK (by kernel_rfl) (fun K4 n4 e4 r4 p4 => ?_)
  refine W.seqK (by kernel_rfl) (fun K5 n5 e5 r5 p5 => ?_)
  refine W.region (by kernel_rfl) ?_
  replace hF := obind_some hF; obtain ⟨t11, e6, hF⟩ := hF
  refine WL.val (d := (some 11)) (v := .agg t11) (h' := h_2) (by kernel_rfl) (by kernel_rfl) (Eq.trans (by kernel_rfl) (load_row (P := Try.prog) (h := h_2) (t := 26) (by kernel_rfl) (by kernel_rfl) e6)) ?_
  refine WL.val (d := (some 12)) (v := .int .i64 0) (h' := h_2) (by kernel_rfl) (by kernel_rfl) (by kernel_rfl) ?_
  refine WL.nil (by kernel_rfl) ?_
  refine Go.weaken (l' := [(1, .int .i64 t1), (2, .int .i64 t2), (3, .int .i64 t3), (11, .agg t11), (12, .int .i64 0)]) (Fr.sub_cons (by kernel_rfl) (Fr.sub_cons (by kernel_rfl) (Fr.sub_cons (by kernel_rfl) (Fr.sub_cons (by kernel_rfl) (Fr.sub_cons (by kernel_rfl) (Fr.sub_nil _)))))) ?_
  refine n5 ?_
  replace hF := lett_some hF; obtain ⟨k8, e8, hF⟩ := hF
  have J8 : ∀  (h_9 : AHeap), k8 h_9 = some (rR, hR) → Go w0 m0 (Func.ntmps Try.f21) (K4 .normal) [] [] h_9 := by
    intro  h_9 hF
    rw [e8] at hF
    refine n4 ?_
    refine W.seqK (by kernel_rfl) (fun K10 n10 e10 r10 p10 => ?_)
    refine W.region (by kernel_rfl) ?_
    refine WL.val (d := (some 8)) (v := .bool false) (h' := h_9) (by kernel_rfl) (by kernel_rfl) (by kernel_rfl) ?_
    refine WL.nil (by kernel_rfl) ?_
    refine Go.weaken (l' := [(8, .bool false)]) (Fr.sub_cons (by kernel_rfl) (Fr.sub_nil _)) ?_
    refine n10 ?_
    refine W.ret (by kernel_rfl) ?_
    obtain ⟨hF, hF2⟩ := ret_inj hF; subst hF; subst hF2
    exact leave_of (rs := [.tmp 8]) (vs := [.bool false]) (by kernel_rfl) (res_tmp (by kernel_rfl) res_nil) (by kernel_rfl)
  refine W.blockK (by kernel_rfl) (fun K7 n7 s7 o7 r7 p7 => ?_)
  refine W.loopK (by kernel_rfl) (fun I11 K11 b11 n11 e11 r11 p11 => ?_)
  have L11 : ∀ (m : Nat) (t12 : Int) (h_12 : AHeap), lease_heardLately_L0 t1 t2 t3 t11 k8 m t12 h_12 = some (rR, hR) → Go w0 m0 (Func.ntmps Try.f21) I11 [(1, .int .i64 t1), (2, .int .i64 t2), (3, .int .i64 t3), (11, .agg t11), (12, .int .i64 t12)] [] h_12 := by
    intro m
    induction m with
    | zero => intro t12 h_12 hF; cases hF
    | succ m ih11 =>
      intro t12 h_12 hF
      rw [lease_heardLately_L0_s] at hF; unfold lease_heardLately_L0b at hF
      refine b11 ?_
      refine W.seqK (by kernel_rfl) (fun K13 n13 e13 r13 p13 => ?_)
      refine W.region (by kernel_rfl) ?_
      replace hF := lett_some hF; obtain ⟨t13, e14, hF⟩ := hF
      refine WL.val (d := (some 13)) (v := .bool t13) (h' := h_12) (by kernel_rfl) (by kernel_rfl) (val_of AV.bool e14 (by kernel_rfl)) ?_
      refine WL.nil (by kernel_rfl) ?_
      refine Go.weaken (l' := [(1, .int .i64 t1), (2, .int .i64 t2), (3, .int .i64 t3), (11, .agg t11), (12, .int .i64 t12), (13, .bool t13)]) (Fr.sub_cons (by kernel_rfl) (Fr.sub_cons (by kernel_rfl) (Fr.sub_cons (by kernel_rfl) (Fr.sub_cons (by kernel_rfl) (Fr.sub_cons (by kernel_rfl) (Fr.sub_cons (by kernel_rfl) (Fr.sub_nil _))))))) ?_
      refine n13 ?_
      refine W.seqK (by kernel_rfl) (fun K15 n15 e15 r15 p15 => ?_)
      cases t13 with
      | true =>
        replace hF := ifB_t hF
        refine W.cond_true (by kernel_rfl) (by kernel_rfl) ?_
        refine W.skip (by kernel_rfl) ?_
        refine n15 ?_
        refine W.seqK (by kernel_rfl) (fun K16 n16 e16 r16 p16 => ?_)
        refine W.blockK (by kernel_rfl) (fun K17 n17 s17 o17 r17 p17 => ?_)
        refine W.seqK (by kernel_rfl) (fun K18 n18 e18 r18 p18 => ?_)
        refine W.region (by kernel_rfl) ?_
        refine WL.val (d := (some 14)) (v := .int .i64 t12) (h' := h_12) (by kernel_rfl) (by kernel_rfl) (by kernel_rfl) ?_
        replace hF := outK_some hF; obtain ⟨v15, h_19, e20, hF⟩ := hF
        replace hF := obind_some hF; obtain ⟨t15, c21, hF⟩ := hF
        have c21 := avInt_some c21
        subst c21
        refine WL.val (d := (some 15)) (v := .int .i64 t15) (h' := h_19) (by kernel_rfl) (by kernel_rfl) (Eq.trans (by kernel_rfl) e20) ?_
        refine WL.val (d := (some 9)) (v := .int .i64 t12) (h' := h_19) (by kernel_rfl) (by kernel_rfl) (by kernel_rfl) ?_
        refine WL.val (d := (some 10)) (v := .int .i64 t15) (h' := h_19) (by kernel_rfl) (by kernel_rfl) (by kernel_rfl) ?_
        refine WL.nil (by kernel_rfl) ?_
        refine Go.weaken (l' := [(1, .int .i64 t1), (2, .int .i64 t2), (3, .int .i64 t3), (9, .int .i64 t12), (10, .int .i64 t15), (11, .agg t11), (12, .int .i64 t12)]) (Fr.sub_cons (by kernel_rfl) (Fr.sub_cons (by kernel_rfl) (Fr.sub_cons (by kernel_rfl) (Fr.sub_cons (by kernel_rfl) (Fr.sub_cons (by kernel_rfl) (Fr.sub_cons (by kernel_rfl) (Fr.sub_cons (by kernel_rfl) (Fr.sub_nil _)))))))) ?_
        refine n18 ?_
        refine W.seqK (by kernel_rfl) (fun K22 n22 e22 r22 p22 => ?_)
        refine W.region (by kernel_rfl) ?_
        refine WL.val (d := (some 16)) (v := .int .i64 t12) (h' := h_19) (by kernel_rfl) (by kernel_rfl) (by kernel_rfl) ?_
        refine WL.val (d := (some 17)) (v := .int .i64 t1) (h' := h_19) (by kernel_rfl) (by kernel_rfl) (by kernel_rfl) ?_
        replace hF := lett_some hF; obtain ⟨t18, e23, hF⟩ := hF
        refine WL.val (d := (some 18)) (v := .bool t18) (h' := h_19) (by kernel_rfl) (by kernel_rfl) (val_of AV.bool e23 (by kernel_rfl)) ?_
        refine WL.val (d := (some 19)) (v := .bool t18) (h' := h_19) (by kernel_rfl) (by kernel_rfl) (by kernel_rfl) ?_
        replace hF := lett_some hF; obtain ⟨j23, e25, hF⟩ := hF
        have J26 : ∀ (t23 : Bool) (h_24 : AHeap), j23 t23 h_24 = some (rR, hR) → WL Try.prog w0 m0 (Func.ntmps Try.f21) (Code.ops (Code.p1 (Code.p2 (Code.p1 (Code.p1 (Code.p2 (Code.p2 (Code.p1 (Code.p1 (Code.p2 (Code.p1 (Code.p2 (codeOf Try.f21))))))))))))) 8 K22 [(1, .int .i64 t1), (2, .int .i64 t2), (3, .int .i64 t3), (10, .int .i64 t15), (11, .agg t11), (12, .int .i64 t12), (23, .bool t23)] [] h_24 := by
          intro t23 h_24 hF
          rw [e25] at hF
          refine WL.val (d := (some 24)) (v := .bool t23) (h' := h_24) (by kernel_rfl) (by kernel_rfl) (by kernel_rfl) ?_
          replace hF := lett_some hF; obtain ⟨j33, e28, hF⟩ := hF
          have J29 : ∀ (t33 : Bool) (h_27 : AHeap), j33 t33 h_27 = some (rR, hR) → WL Try.prog w0 m0 (Func.ntmps Try.f21) (Code.ops (Code.p1 (Code.p2 (Code.p1 (Code.p1 (Code.p2 (Code.p2 (Code.p1 (Code.p1 (Code.p2 (Code.p1 (Code.p2 (codeOf Try.f21))))))))))))) 18 K22 [(1, .int .i64 t1), (2, .int .i64 t2), (3, .int .i64 t3), (11, .agg t11), (12, .int .i64 t12), (33, .bool t33)] [] h_27 := by
            intro t33 h_27 hF
            rw [e28] at hF
            refine WL.nil (by kernel_rfl) ?_
            refine Go.weaken (l' := [(1, .int .i64 t1), (2, .int .i64 t2), (3, .int .i64 t3), (11, .agg t11), (12, .int .i64 t12), (33, .bool t33)]) (Fr.sub_cons (by kernel_rfl) (Fr.sub_cons (by kernel_rfl) (Fr.sub_cons (by kernel_rfl) (Fr.sub_cons (by kernel_rfl) (Fr.sub_cons (by kernel_rfl) (Fr.sub_cons (by kernel_rfl) (Fr.sub_nil _))))))) ?_
            refine n22 ?_
            cases t33 with
            | true =>
              replace hF := ifB_t hF
              refine W.cond_true (by kernel_rfl) (by kernel_rfl) ?_
              refine W.seqK (by kernel_rfl) (fun K30 n30 e30 r30 p30 => ?_)
              refine W.region (by kernel_rfl) ?_
              refine WL.val (d := (some 8)) (v := .bool true) (h' := h_27) (by kernel_rfl) (by kernel_rfl) (by kernel_rfl) ?_
              refine WL.nil (by kernel_rfl) ?_
              refine Go.weaken (l' := [(8, .bool true)]) (Fr.sub_cons (by kernel_rfl) (Fr.sub_nil _)) ?_
              refine n30 ?_
              refine W.ret (by kernel_rfl) ?_
              refine r17 ?_
              refine r16 ?_
              refine r11 ?_
              refine r7 ?_
              refine r4 ?_
              obtain ⟨hF, hF2⟩ := ret_inj hF; subst hF; subst hF2
              exact leave_of (rs := [.tmp 8]) (vs := [.bool true]) (by kernel_rfl) (res_tmp (by kernel_rfl) res_nil) (by kernel_rfl)
            | false =>
              replace hF := ifB_f hF
              refine W.cond_false (by kernel_rfl) (by kernel_rfl) ?_
              refine W.skip (by kernel_rfl) ?_
              refine n17 ?_
              refine n16 ?_
              refine W.region (by kernel_rfl) ?_
              replace hF := lett_some hF; obtain ⟨t34, e31, hF⟩ := hF
              refine WL.val (d := (some 34)) (v := .int .i64 t34) (h' := h_27) (by kernel_rfl) (by kernel_rfl) (val_of (AV.int .i64) e31 (by kernel_rfl)) ?_
              refine WL.val (d := (some 12)) (v := .int .i64 t34) (h' := h_27) (by kernel_rfl) (by kernel_rfl) (by kernel_rfl) ?_
              refine WL.nil (by kernel_rfl) ?_
              refine Go.weaken (l' := [(1, .int .i64 t1), (2, .int .i64 t2), (3, .int .i64 t3), (11, .agg t11), (12, .int .i64 t34)]) (Fr.sub_cons (by kernel_rfl) (Fr.sub_cons (by kernel_rfl) (Fr.sub_cons (by kernel_rfl) (Fr.sub_cons (by kernel_rfl) (Fr.sub_cons (by kernel_rfl) (Fr.sub_nil _)))))) ?_
              refine n11 ?_
              exact Go.weaken (Fr.sub_cons (by kernel_rfl) (Fr.sub_cons (by kernel_rfl) (Fr.sub_cons (by kernel_rfl) (Fr.sub_cons (by kernel_rfl) (Fr.sub_cons (by kernel_rfl) (Fr.sub_nil _)))))) (ih11 _ _ hF)
          cases t23 with
          | true =>
            replace hF := ifB_t hF
            refine WL.val (d := (some 25)) (v := .int .i64 t2) (h' := h_24) (by kernel_rfl) (by kernel_rfl) (by kernel_rfl) ?_
            replace hF := lett_some hF; obtain ⟨t26, e32, hF⟩ := hF
            refine WL.val (d := (some 26)) (v := .int .u64 t26) (h' := h_24) (by kernel_rfl) (by kernel_rfl) (val_of (AV.int .u64) e32 (by kernel_rfl)) ?_
            refine WL.val (d := (some 27)) (v := .int .i64 t15) (h' := h_24) (by kernel_rfl) (by kernel_rfl) (by kernel_rfl) ?_
            replace hF := lett_some hF; obtain ⟨t28, e33, hF⟩ := hF
            refine WL.val (d := (some 28)) (v := .int .u64 t28) (h' := h_24) (by kernel_rfl) (by kernel_rfl) (val_of (AV.int .u64) e33 (by kernel_rfl)) ?_
            replace hF := lett_some hF; obtain ⟨t29, e34, hF⟩ := hF
            refine WL.val (d := (some 29)) (v := .int .u64 t29) (h' := h_24) (by kernel_rfl) (by kernel_rfl) (val_of (AV.int .u64) e34 (by kernel_rfl)) ?_
            refine WL.val (d := (some 30)) (v := .int .i64 t3) (h' := h_24) (by kernel_rfl) (by kernel_rfl) (by kernel_rfl) ?_
            replace hF := lett_some hF; obtain ⟨t31, e35, hF⟩ := hF
            refine WL.val (d := (some 31)) (v := .int .u64 t31) (h' := h_24) (by kernel_rfl) (by kernel_rfl) (val_of (AV.int .u64) e35 (by kernel_rfl)) ?_
            replace hF := lett_some hF; obtain ⟨t32, e36, hF⟩ := hF
            refine WL.val (d := (some 32)) (v := .bool t32) (h' := h_24) (by kernel_rfl) (by kernel_rfl) (val_of AV.bool e36 (by kernel_rfl)) ?_
            refine WL.val (d := (some 33)) (v := .bool t32) (h' := h_24) (by kernel_rfl) (by kernel_rfl) (by kernel_rfl) ?_
            exact WL.weaken (Fr.sub_cons (by kernel_rfl) (Fr.sub_cons (by kernel_rfl) (Fr.sub_cons (by kernel_rfl) (Fr.sub_cons (by kernel_rfl) (Fr.sub_cons (by kernel_rfl) (Fr.sub_cons (by kernel_rfl) (Fr.sub_nil _))))))) (J29 _ _ hF)
          | false =>
            replace hF := ifB_f hF
            refine WL.not (d := (some 25)) (by kernel_rfl) (by kernel_rfl) ?_
            refine WL.not (d := (some 26)) (by kernel_rfl) (by kernel_rfl) ?_
            refine WL.not (d := (some 27)) (by kernel_rfl) (by kernel_rfl) ?_
            refine WL.not (d := (some 28)) (by kernel_rfl) (by kernel_rfl) ?_
            refine WL.not (d := (some 29)) (by kernel_rfl) (by kernel_rfl) ?_
            refine WL.not (d := (some 30)) (by kernel_rfl) (by kernel_rfl) ?_
            refine WL.not (d := (some 31)) (by kernel_rfl) (by kernel_rfl) ?_
            refine WL.not (d := (some 32)) (by kernel_rfl) (by kernel_rfl) ?_
            refine WL.val (d := (some 33)) (v := .bool false) (h' := h_24) (by kernel_rfl) (by kernel_rfl) (by kernel_rfl) ?_
            exact WL.weaken (Fr.sub_cons (by kernel_rfl) (Fr.sub_cons (by kernel_rfl) (Fr.sub_cons (by kernel_rfl) (Fr.sub_cons (by kernel_rfl) (Fr.sub_cons (by kernel_rfl) (Fr.sub_cons (by kernel_rfl) (Fr.sub_nil _))))))) (J29 _ _ hF)
        cases t18 with
        | true =>
          replace hF := ifB_t hF
          refine WL.val (d := (some 20)) (v := .int .i64 t15) (h' := h_19) (by kernel_rfl) (by kernel_rfl) (by kernel_rfl) ?_
          refine WL.val (d := (some 21)) (v := .int .i64 t2) (h' := h_19) (by kernel_rfl) (by kernel_rfl) (by kernel_rfl) ?_
          replace hF := lett_some hF; obtain ⟨t22, e37, hF⟩ := hF
          refine WL.val (d := (some 22)) (v := .bool t22) (h' := h_19) (by kernel_rfl) (by kernel_rfl) (val_of AV.bool e37 (by kernel_rfl)) ?_
          refine WL.val (d := (some 23)) (v := .bool t22) (h' := h_19) (by kernel_rfl) (by kernel_rfl) (by kernel_rfl) ?_
          exact WL.weaken (Fr.sub_cons (by kernel_rfl) (Fr.sub_cons (by kernel_rfl) (Fr.sub_cons (by kernel_rfl) (Fr.sub_cons (by kernel_rfl) (Fr.sub_cons (by kernel_rfl) (Fr.sub_cons (by kernel_rfl) (Fr.sub_cons (by kernel_rfl) (Fr.sub_nil _)))))))) (J26 _ _ hF)
        | false =>
          replace hF := ifB_f hF
          refine WL.not (d := (some 20)) (by kernel_rfl) (by kernel_rfl) ?_
          refine WL.not (d := (some 21)) (by kernel_rfl) (by kernel_rfl) ?_
          refine WL.not (d := (some 22)) (by kernel_rfl) (by kernel_rfl) ?_
          refine WL.val (d := (some 23)) (v := .bool false) (h' := h_19) (by kernel_rfl) (by kernel_rfl) (by kernel_rfl) ?_
          exact WL.weaken (Fr.sub_cons (by kernel_rfl) (Fr.sub_cons (by kernel_rfl) (Fr.sub_cons (by kernel_rfl) (Fr.sub_cons (by kernel_rfl) (Fr.sub_cons (by kernel_rfl) (Fr.sub_cons (by kernel_rfl) (Fr.sub_cons (by kernel_rfl) (Fr.sub_nil _)))))))) (J26 _ _ hF)
      | false =>
        replace hF := ifB_f hF
        refine W.cond_false (by kernel_rfl) (by kernel_rfl) ?_
        refine W.exit (by kernel_rfl) ?_
        refine e15 ?_
        refine e11 ?_
        refine s7 (by kernel_rfl) ?_
        exact Go.weaken (Fr.sub_nil _) (J8 _ hF)
  exact Go.weaken (Fr.sub_cons (by kernel_rfl) (Fr.sub_cons (by kernel_rfl) (Fr.sub_cons (by kernel_rfl) (Fr.sub_cons (by kernel_rfl) (Fr.sub_cons (by kernel_rfl) (Fr.sub_nil _)))))) (L11 _ _ _ hF)
noncomputable def lease_heardLately_fn (call : CallF) (n : Nat) : FnT := fun args h => match args with
  | [x0, x1, x2, x3] => obind (avAgg x0) fun t0 => obind (avInt .i64 x1) fun t1 => obind (avInt .i64 x2) fun t2 => obind (avInt .i64 x3) fun t3 => lease_heardLately call n t0 t1 t2 t3 h
  | _ => none
set_option maxRecDepth 100000 in
theorem lease_heardLately_fn_eq (call : CallF) (n : Nat) (t0 : List AV) (t1 : Int) (t2 : Int) (t3 : Int) (h : AHeap) : lease_heardLately_fn call n [.agg t0, .int .i64 t1, .int .i64 t2, .int .i64 t3] h = lease_heardLately call n t0 t1 t2 t3 h :=
  (Eq.trans (obind_eq (fun t0 => obind (avInt .i64 (.int .i64 t1)) fun t1 => obind (avInt .i64 (.int .i64 t2)) fun t2 => obind (avInt .i64 (.int .i64 t3)) fun t3 => lease_heardLately call n t0 t1 t2 t3 h) (avAgg_agg t0)) (Eq.trans (obind_eq (fun t1 => obind (avInt .i64 (.int .i64 t2)) fun t2 => obind (avInt .i64 (.int .i64 t3)) fun t3 => lease_heardLately call n t0 t1 t2 t3 h) (avInt_int .i64 t1)) (Eq.trans (obind_eq (fun t2 => obind (avInt .i64 (.int .i64 t3)) fun t3 => lease_heardLately call n t0 t1 t2 t3 h) (avInt_int .i64 t2)) (Eq.trans (obind_eq (fun t3 => lease_heardLately call n t0 t1 t2 t3 h) (avInt_int .i64 t3)) rfl))))
theorem lease_heardLately_holds {call : CallF} (hc : SaysAll Try.prog call) (n : Nat) : Holds Try.prog 21 (lease_heardLately_fn call n) := by
  intro args h r h2 e
  unfold lease_heardLately_fn at e
  split at e
  · replace e := obind_some e; obtain ⟨t0, c0, e⟩ := e; have c0 := avAgg_some c0; subst c0
    replace e := obind_some e; obtain ⟨t1, c1, e⟩ := e; have c1 := avInt_some c1; subst c1
    replace e := obind_some e; obtain ⟨t2, c2, e⟩ := e; have c2 := avInt_some c2; subst c2
    replace e := obind_some e; obtain ⟨t3, c3, e⟩ := e; have c3 := avInt_some c3; subst c3
    exact lease_heardLately_ok hc e
  · cases e

noncomputable def ref20_Span_L0b (t0 : Int) (k5 : Int → AHeap → R) (self : Int → AHeap → R) (t3_14 : Int) (h_15 : AHeap) : R :=
  lett (IntKind.i64.wrap (t3_14 + 1)) fun (t5 : Int) =>
  lett (IntKind.i64.wrap (1000 + t0)) fun (t7 : Int) =>
  lett (IntKind.i64.wrap (t5 * t7)) fun (t8 : Int) =>
  lett (IntKind.i64.wrap (1000 - t0)) fun (t10 : Int) =>
  lett (IntKind.i64.wrap (19 * t10)) fun (t11 : Int) =>
  lett (decide (t8 ≤ t11)) fun (t12 : Bool) =>
  ifB t12
  (
    lett (IntKind.i64.wrap (t3_14 + 1)) fun (t14 : Int) =>
    self t14 h_15)
  (
    k5 t3_14 h_15)
noncomputable def ref20_Span_L0 (t0 : Int) (k5 : Int → AHeap → R) : Nat → Int → AHeap → R := iterR (fun _ _ => none) (ref20_Span_L0b t0 k5)
theorem ref20_Span_L0_s (t0 : Int) (k5 : Int → AHeap → R) (m : Nat) : ref20_Span_L0 t0 k5 (m + 1) = ref20_Span_L0b t0 k5 (ref20_Span_L0 t0 k5 m) := rfl
noncomputable def ref20_Span (_ : CallF) (n : Nat) (t0 : Int) (h : AHeap) : R :=
  lett (fun (t3 : Int) (h_6 : AHeap) =>
    lett ((t3 : Int) == 0) fun (t16 : Bool) =>
    ifB t16
    (
      some (.ret (.int .i64 0), h_6))
    (
      lett (IntKind.i64.wrap (t3 - 1)) fun (t18 : Int) =>
      some (.ret (.int .i64 t18), h_6))) fun k5 =>
  ref20_Span_L0 t0 k5 n 0 h
set_option maxHeartbeats 4000000 in
set_option maxRecDepth 20000 in
theorem ref20_Span_ok {call : CallF} (_ : SaysAll Try.prog call) {n : Nat} {t0 : Int} {h : AHeap} {rR : ARes} {hR : AHeap} (hF : ref20_Span call n t0 h = some (rR, hR)) : Says Try.prog 13 [.int .i64 t0] h rR hR := by
  unfold ref20_Span at hF
  refine says_of (fn := Try.f13) Try.func13 (c := codeOf Try.f13) (by kernel_rfl) (by kernel_rfl) (fun w0 m0 => ?_)
  refine W.weaken (l' := [(0, .int .i64 t0)]) (Fr.sub_cons (by kernel_rfl) (Fr.sub_nil _)) ?_
  refine W.seqK (by kernel_rfl) (fun K1 n1 e1 r1 p1 => ?_)
  refine W.region (by kernel_rfl) ?_
  refine WL.val (d := (some 2)) (v := .int .i64 0) (h' := h) (by kernel_rfl) (by kernel_rfl) (by kernel_rfl) ?_
  refine WL.nil (by kernel_rfl) ?_
  refine Go.weaken (l' := [(0, .int .i64 t0)]) (Fr.sub_cons (by kernel_rfl) (Fr.sub_nil _)) ?_
  refine n1 ?_
  refine W.seqK (by kernel_rfl) (fun K2 n2 e2 r2 p2 => ?_)
  refine W.region (by kernel_rfl) ?_
  refine WL.val (d := (some 3)) (v := .int .i64 0) (h' := h) (by kernel_rfl) (by kernel_rfl) (by kernel_rfl) ?_
  refine WL.nil (by kernel_rfl) ?_
  refine Go.weaken (l' := [(0, .int .i64 t0), (3, .int .i64 0)]) (Fr.sub_cons (by kernel_rfl) (Fr.sub_cons (by kernel_rfl) (Fr.sub_nil _))) ?_
  refine n2 ?_
  refine W.seqK (by kernel_rfl) (fun K3 n3 e3 r3 p3 => ?_)
  replace hF := lett_some hF; obtain ⟨k5, e5, hF⟩ := hF
  have J5 : ∀ (t3 : Int) (h_6 : AHeap), k5 t3 h_6 = some (rR, hR) → Go w0 m0 (Func.ntmps Try.f13) (K3 .normal) [(3, .int .i64 t3)] [] h_6 := by
    intro t3 h_6 hF
    rw [e5] at hF
    refine n3 ?_
    refine W.seqK (by kernel_rfl) (fun K7 n7 e7 r7 p7 => ?_)
    refine W.seqK (by kernel_rfl) (fun K8 n8 e8 r8 p8 => ?_)
    refine W.region (by kernel_rfl) ?_
    refine WL.val (d := (some 15)) (v := .int .i64 t3) (h' := h_6) (by kernel_rfl) (by kernel_rfl) (by kernel_rfl) ?_
    replace hF := lett_some hF; obtain ⟨t16, e9, hF⟩ := hF
    refine WL.val (d := (some 16)) (v := .bool t16) (h' := h_6) (by kernel_rfl) (by kernel_rfl) (val_of AV.bool e9 (by kernel_rfl)) ?_
    refine WL.nil (by kernel_rfl) ?_
    refine Go.weaken (l' := [(3, .int .i64 t3), (16, .bool t16)]) (Fr.sub_cons (by kernel_rfl) (Fr.sub_cons (by kernel_rfl) (Fr.sub_nil _))) ?_
    refine n8 ?_
    cases t16 with
    | true =>
      replace hF := ifB_t hF
      refine W.cond_true (by kernel_rfl) (by kernel_rfl) ?_
      refine W.seqK (by kernel_rfl) (fun K10 n10 e10 r10 p10 => ?_)
      refine W.region (by kernel_rfl) ?_
      refine WL.val (d := (some 2)) (v := .int .i64 0) (h' := h_6) (by kernel_rfl) (by kernel_rfl) (by kernel_rfl) ?_
      refine WL.nil (by kernel_rfl) ?_
      refine Go.weaken (l' := [(2, .int .i64 0)]) (Fr.sub_cons (by kernel_rfl) (Fr.sub_nil _)) ?_
      refine n10 ?_
      refine W.ret (by kernel_rfl) ?_
      refine r7 ?_
      obtain ⟨hF, hF2⟩ := ret_inj hF; subst hF; subst hF2
      exact leave_of (rs := [.tmp 2]) (vs := [.int .i64 0]) (by kernel_rfl) (res_tmp (by kernel_rfl) res_nil) (by kernel_rfl)
    | false =>
      replace hF := ifB_f hF
      refine W.cond_false (by kernel_rfl) (by kernel_rfl) ?_
      refine W.skip (by kernel_rfl) ?_
      refine n7 ?_
      refine W.seqK (by kernel_rfl) (fun K11 n11 e11 r11 p11 => ?_)
      refine W.region (by kernel_rfl) ?_
      refine WL.val (d := (some 17)) (v := .int .i64 t3) (h' := h_6) (by kernel_rfl) (by kernel_rfl) (by kernel_rfl) ?_
      replace hF := lett_some hF; obtain ⟨t18, e12, hF⟩ := hF
      refine WL.val (d := (some 18)) (v := .int .i64 t18) (h' := h_6) (by kernel_rfl) (by kernel_rfl) (val_of (AV.int .i64) e12 (by kernel_rfl)) ?_
      refine WL.val (d := (some 2)) (v := .int .i64 t18) (h' := h_6) (by kernel_rfl) (by kernel_rfl) (by kernel_rfl) ?_
      refine WL.nil (by kernel_rfl) ?_
      refine Go.weaken (l' := [(2, .int .i64 t18)]) (Fr.sub_cons (by kernel_rfl) (Fr.sub_nil _)) ?_
      refine n11 ?_
      refine W.ret (by kernel_rfl) ?_
      obtain ⟨hF, hF2⟩ := ret_inj hF; subst hF; subst hF2
      exact leave_of (rs := [.tmp 2]) (vs := [.int .i64 t18]) (by kernel_rfl) (res_tmp (by kernel_rfl) res_nil) (by kernel_rfl)
  refine W.blockK (by kernel_rfl) (fun K4 n4 s4 o4 r4 p4 => ?_)
  refine W.loopK (by kernel_rfl) (fun I13 K13 b13 n13 e13 r13 p13 => ?_)
  have L13 : ∀ (m : Nat) (t3_14 : Int) (h_15 : AHeap), ref20_Span_L0 t0 k5 m t3_14 h_15 = some (rR, hR) → Go w0 m0 (Func.ntmps Try.f13) I13 [(0, .int .i64 t0), (3, .int .i64 t3_14)] [] h_15 := by
    intro m
    induction m with
    | zero => intro t3_14 h_15 hF; cases hF
    | succ m ih13 =>
      intro t3_14 h_15 hF
      rw [ref20_Span_L0_s] at hF; unfold ref20_Span_L0b at hF
      refine b13 ?_
      refine W.seqK (by kernel_rfl) (fun K16 n16 e16 r16 p16 => ?_)
      refine W.seqK (by kernel_rfl) (fun K17 n17 e17 r17 p17 => ?_)
      refine W.region (by kernel_rfl) ?_
      refine WL.val (d := (some 4)) (v := .int .i64 t3_14) (h' := h_15) (by kernel_rfl) (by kernel_rfl) (by kernel_rfl) ?_
      replace hF := lett_some hF; obtain ⟨t5, e18, hF⟩ := hF
      refine WL.val (d := (some 5)) (v := .int .i64 t5) (h' := h_15) (by kernel_rfl) (by kernel_rfl) (val_of (AV.int .i64) e18 (by kernel_rfl)) ?_
      refine WL.val (d := (some 6)) (v := .int .i64 t0) (h' := h_15) (by kernel_rfl) (by kernel_rfl) (by kernel_rfl) ?_
      replace hF := lett_some hF; obtain ⟨t7, e19, hF⟩ := hF
      refine WL.val (d := (some 7)) (v := .int .i64 t7) (h' := h_15) (by kernel_rfl) (by kernel_rfl) (val_of (AV.int .i64) e19 (by kernel_rfl)) ?_
      replace hF := lett_some hF; obtain ⟨t8, e20, hF⟩ := hF
      refine WL.val (d := (some 8)) (v := .int .i64 t8) (h' := h_15) (by kernel_rfl) (by kernel_rfl) (val_of (AV.int .i64) e20 (by kernel_rfl)) ?_
      refine WL.val (d := (some 9)) (v := .int .i64 t0) (h' := h_15) (by kernel_rfl) (by kernel_rfl) (by kernel_rfl) ?_
      replace hF := lett_some hF; obtain ⟨t10, e21, hF⟩ := hF
      refine WL.val (d := (some 10)) (v := .int .i64 t10) (h' := h_15) (by kernel_rfl) (by kernel_rfl) (val_of (AV.int .i64) e21 (by kernel_rfl)) ?_
      replace hF := lett_some hF; obtain ⟨t11, e22, hF⟩ := hF
      refine WL.val (d := (some 11)) (v := .int .i64 t11) (h' := h_15) (by kernel_rfl) (by kernel_rfl) (val_of (AV.int .i64) e22 (by kernel_rfl)) ?_
      replace hF := lett_some hF; obtain ⟨t12, e23, hF⟩ := hF
      refine WL.val (d := (some 12)) (v := .bool t12) (h' := h_15) (by kernel_rfl) (by kernel_rfl) (val_of AV.bool e23 (by kernel_rfl)) ?_
      refine WL.nil (by kernel_rfl) ?_
      refine Go.weaken (l' := [(0, .int .i64 t0), (3, .int .i64 t3_14), (12, .bool t12)]) (Fr.sub_cons (by kernel_rfl) (Fr.sub_cons (by kernel_rfl) (Fr.sub_cons (by kernel_rfl) (Fr.sub_nil _)))) ?_
      refine n17 ?_
      cases t12 with
      | true =>
        replace hF := ifB_t hF
        refine W.cond_true (by kernel_rfl) (by kernel_rfl) ?_
        refine W.skip (by kernel_rfl) ?_
        refine n16 ?_
        refine W.blockK (by kernel_rfl) (fun K24 n24 s24 o24 r24 p24 => ?_)
        refine W.region (by kernel_rfl) ?_
        refine WL.val (d := (some 13)) (v := .int .i64 t3_14) (h' := h_15) (by kernel_rfl) (by kernel_rfl) (by kernel_rfl) ?_
        replace hF := lett_some hF; obtain ⟨t14, e25, hF⟩ := hF
        refine WL.val (d := (some 14)) (v := .int .i64 t14) (h' := h_15) (by kernel_rfl) (by kernel_rfl) (val_of (AV.int .i64) e25 (by kernel_rfl)) ?_
        refine WL.val (d := (some 3)) (v := .int .i64 t14) (h' := h_15) (by kernel_rfl) (by kernel_rfl) (by kernel_rfl) ?_
        refine WL.nil (by kernel_rfl) ?_
        refine Go.weaken (l' := [(0, .int .i64 t0), (3, .int .i64 t14)]) (Fr.sub_cons (by kernel_rfl) (Fr.sub_cons (by kernel_rfl) (Fr.sub_nil _))) ?_
        refine n24 ?_
        refine n13 ?_
        exact Go.weaken (Fr.sub_cons (by kernel_rfl) (Fr.sub_cons (by kernel_rfl) (Fr.sub_nil _))) (ih13 _ _ hF)
      | false =>
        replace hF := ifB_f hF
        refine W.cond_false (by kernel_rfl) (by kernel_rfl) ?_
        refine W.exit (by kernel_rfl) ?_
        refine e16 ?_
        refine e13 ?_
        refine s4 (by kernel_rfl) ?_
        exact Go.weaken (Fr.sub_cons (by kernel_rfl) (Fr.sub_nil _)) (J5 _ _ hF)
  exact Go.weaken (Fr.sub_cons (by kernel_rfl) (Fr.sub_cons (by kernel_rfl) (Fr.sub_nil _))) (L13 _ _ _ hF)
noncomputable def ref20_Span_fn (call : CallF) (n : Nat) : FnT := fun args h => match args with
  | [x0] => obind (avInt .i64 x0) fun t0 => ref20_Span call n t0 h
  | _ => none
set_option maxRecDepth 100000 in
theorem ref20_Span_fn_eq (call : CallF) (n : Nat) (t0 : Int) (h : AHeap) : ref20_Span_fn call n [.int .i64 t0] h = ref20_Span call n t0 h :=
  (Eq.trans (obind_eq (fun t0 => ref20_Span call n t0 h) (avInt_int .i64 t0)) rfl)
theorem ref20_Span_holds {call : CallF} (hc : SaysAll Try.prog call) (n : Nat) : Holds Try.prog 13 (ref20_Span_fn call n) := by
  intro args h r h2 e
  unfold ref20_Span_fn at e
  split at e
  · replace e := obind_some e; obtain ⟨t0, c0, e⟩ := e; have c0 := avInt_some c0; subst c0
    exact ref20_Span_ok hc e
  · cases e

noncomputable def ref20_Held_L0b (call : CallF) (t1 : Int) (t2 : Int) (v3 : AV) (k26 : AHeap → R) (self : Int → AHeap → R) (t7 : Int) (h_30 : AHeap) : R :=
  lett (decide (t7 < 3)) fun (t33 : Bool) =>
  ifB t33
  (
    lett (fun (t59 : Bool) (h_38 : AHeap) =>
      ifB t59
      (
        some (.ret (.bool true), h_38))
      (
        lett (IntKind.i64.wrap (t7 + 1)) fun (t35 : Int) =>
        self t35 h_38)) fun k37 =>
    lett ((t7 : Int) != t1) fun (t38 : Bool) =>
    ifB t38
    (
      obind (fldP 10 v3) fun t41 =>
      obind (idxA 3 1 t41 t7) fun t42 =>
      obind (ldCell h_30 t42) fun v43 =>
      obind (avInt .i64 v43) fun t43 =>
      obind (fldP 8 v3) fun t44 =>
      obind (ldCell h_30 t44) fun v45 =>
      obind (avInt .i64 v45) fun t45 =>
      lett (decide (t43 ≤ t45)) fun (t46 : Bool) =>
      ifB t46
      (
        obind (fldP 10 v3) fun t50 =>
        obind (idxA 3 1 t50 t7) fun t51 =>
        obind (ldCell h_30 t51) fun v52 =>
        obind (avInt .i64 v52) fun t52 =>
        obind (fldP 8 v3) fun t53 =>
        obind (ldCell h_30 t53) fun v54 =>
        obind (avInt .i64 v54) fun t54 =>
        callN (call 13 [.int .i64 t2] h_30) fun r56 h_57 =>
        obind (avInt .i64 r56) fun t56 =>
        chk (reLoad Try.prog h_57 3 t53 (.int .i64 t54) && (reLoad Try.prog h_57 3 t51 (.int .i64 t52) && (true && (true && true)))) <|
        lett (IntKind.i64.wrap (t54 - t56)) fun (t57 : Int) =>
        lett (decide (t52 > t57)) fun (t58 : Bool) =>
        k37 t58 h_57)
      (
        k37 false h_30))
    (
      k37 false h_30))
  (
    k26 h_30)
noncomputable def ref20_Held_L0 (call : CallF) (t1 : Int) (t2 : Int) (v3 : AV) (k26 : AHeap → R) : Nat → Int → AHeap → R := iterR (fun _ _ => none) (ref20_Held_L0b call t1 t2 v3 k26)
theorem ref20_Held_L0_s (call : CallF) (t1 : Int) (t2 : Int) (v3 : AV) (k26 : AHeap → R) (m : Nat) : ref20_Held_L0 call t1 t2 v3 k26 (m + 1) = ref20_Held_L0b call t1 t2 v3 k26 (ref20_Held_L0 call t1 t2 v3 k26 m) := rfl
noncomputable def ref20_Held (call : CallF) (n : Nat) (t0 : List AV) (t1 : Int) (t2 : Int) (h : AHeap) : R :=
  outK (opBox h 32 (some (.agg t0))) fun v3 h_2 =>
  lett (decide (t2 < 0)) fun (t9 : Bool) =>
  lett (fun (t13 : Bool) (h_7 : AHeap) =>
    lett (fun (t17 : Bool) (h_10 : AHeap) =>
      lett (fun (t21 : Bool) (h_13 : AHeap) =>
        lett (fun (t26 : Bool) (h_16 : AHeap) =>
          lett (fun (t31 : Bool) (h_19 : AHeap) =>
            ifB t31
            (
              some (.ret (.bool false), h_19))
            (
              lett (fun  (h_27 : AHeap) =>
                some (.ret (.bool false), h_27)) fun k26 =>
              ref20_Held_L0 call t1 t2 v3 k26 n 0 h_19)) fun j31 =>
          ifB t26
          (
            j31 true h_16)
          (
            obind (fldP 9 v3) fun t28 =>
            obind (ldCell h_16 t28) fun v29 =>
            obind (avBool v29) fun t29 =>
            lett (!t29) fun (t30 : Bool) =>
            j31 t30 h_16)) fun j26 =>
        ifB t21
        (
          j26 true h_13)
        (
          obind (fldP 0 v3) fun t23 =>
          obind (ldCell h_13 t23) fun v24 =>
          obind (avInt .u8 v24) fun t24 =>
          lett ((t24 : Int) != 3) fun (t25 : Bool) =>
          j26 t25 h_13)) fun j21 =>
      ifB t17
      (
        j21 true h_10)
      (
        lett (decide (t1 > 2)) fun (t20 : Bool) =>
        j21 t20 h_10)) fun j17 =>
    ifB t13
    (
      j17 true h_7)
    (
      lett (decide (t1 < 0)) fun (t16 : Bool) =>
      j17 t16 h_7)) fun j13 =>
  ifB t9
  (
    j13 true h_2)
  (
    lett (decide (t2 > 500)) fun (t12 : Bool) =>
    j13 t12 h_2)
set_option maxHeartbeats 4000000 in
set_option maxRecDepth 20000 in
theorem ref20_Held_ok {call : CallF} (hc : SaysAll Try.prog call) {n : Nat} {t0 : List AV} {t1 : Int} {t2 : Int} {h : AHeap} {rR : ARes} {hR : AHeap} (hF : ref20_Held call n t0 t1 t2 h = some (rR, hR)) : Says Try.prog 14 [.agg t0, .int .i64 t1, .int .i64 t2] h rR hR := by
  unfold ref20_Held at hF
  refine says_of (fn := Try.f14) Try.func14 (c := codeOf Try.f14) (by kernel_rfl) (by kernel_rfl) (fun w0 m0 => ?_)
  refine W.weaken (l' := [(0, .agg t0), (1, .int .i64 t1), (2, .int .i64 t2)]) (Fr.sub_cons (by kernel_rfl) (Fr.sub_cons (by kernel_rfl) (Fr.sub_cons (by kernel_rfl) (Fr.sub_nil _)))) ?_
  refine W.seqK (by kernel_rfl) (fun K1 n1 e1 r1 p1 => ?_)
  refine W.region (by kernel_rfl) ?_
  replace hF := outK_some hF; obtain ⟨v3, h_2, e3, hF⟩ := hF
  refine WL.val (d := (some 3)) (v := v3) (h' := h_2) (by kernel_rfl) (by kernel_rfl) (Eq.trans (by kernel_rfl) e3) ?_
  refine WL.val (d := (some 6)) (v := .bool false) (h' := h_2) (by kernel_rfl) (by kernel_rfl) (by kernel_rfl) ?_
  refine WL.nil (by kernel_rfl) ?_
  refine Go.weaken (l' := [(1, .int .i64 t1), (2, .int .i64 t2), (3, v3)]) (Fr.sub_cons (by kernel_rfl) (Fr.sub_cons (by kernel_rfl) (Fr.sub_cons (by kernel_rfl) (Fr.sub_nil _)))) ?_
  refine n1 ?_
  refine W.seqK (by kernel_rfl) (fun K4 n4 e4 r4 p4 => ?_)
  refine W.seqK (by kernel_rfl) (fun K5 n5 e5 r5 p5 => ?_)
  refine W.region (by kernel_rfl) ?_
  refine WL.val (d := (some 8)) (v := .int .i64 t2) (h' := h_2) (by kernel_rfl) (by kernel_rfl) (by kernel_rfl) ?_
  replace hF := lett_some hF; obtain ⟨t9, e6, hF⟩ := hF
  refine WL.val (d := (some 9)) (v := .bool t9) (h' := h_2) (by kernel_rfl) (by kernel_rfl) (val_of AV.bool e6 (by kernel_rfl)) ?_
  refine WL.val (d := (some 10)) (v := .bool t9) (h' := h_2) (by kernel_rfl) (by kernel_rfl) (by kernel_rfl) ?_
  replace hF := lett_some hF; obtain ⟨j13, e8, hF⟩ := hF
  have J9 : ∀ (t13 : Bool) (h_7 : AHeap), j13 t13 h_7 = some (rR, hR) → WL Try.prog w0 m0 (Func.ntmps Try.f14) (Code.ops (Code.p1 (Code.p1 (Code.p2 (codeOf Try.f14))))) 6 K5 [(1, .int .i64 t1), (2, .int .i64 t2), (3, v3), (13, .bool t13)] [] h_7 := by
    intro t13 h_7 hF
    rw [e8] at hF
    refine WL.val (d := (some 14)) (v := .bool t13) (h' := h_7) (by kernel_rfl) (by kernel_rfl) (by kernel_rfl) ?_
    replace hF := lett_some hF; obtain ⟨j17, e11, hF⟩ := hF
    have J12 : ∀ (t17 : Bool) (h_10 : AHeap), j17 t17 h_10 = some (rR, hR) → WL Try.prog w0 m0 (Func.ntmps Try.f14) (Code.ops (Code.p1 (Code.p1 (Code.p2 (codeOf Try.f14))))) 10 K5 [(1, .int .i64 t1), (2, .int .i64 t2), (3, v3), (17, .bool t17)] [] h_10 := by
      intro t17 h_10 hF
      rw [e11] at hF
      refine WL.val (d := (some 18)) (v := .bool t17) (h' := h_10) (by kernel_rfl) (by kernel_rfl) (by kernel_rfl) ?_
      replace hF := lett_some hF; obtain ⟨j21, e14, hF⟩ := hF
      have J15 : ∀ (t21 : Bool) (h_13 : AHeap), j21 t21 h_13 = some (rR, hR) → WL Try.prog w0 m0 (Func.ntmps Try.f14) (Code.ops (Code.p1 (Code.p1 (Code.p2 (codeOf Try.f14))))) 14 K5 [(1, .int .i64 t1), (2, .int .i64 t2), (3, v3), (21, .bool t21)] [] h_13 := by
        intro t21 h_13 hF
        rw [e14] at hF
        refine WL.val (d := (some 22)) (v := .bool t21) (h' := h_13) (by kernel_rfl) (by kernel_rfl) (by kernel_rfl) ?_
        replace hF := lett_some hF; obtain ⟨j26, e17, hF⟩ := hF
        have J18 : ∀ (t26 : Bool) (h_16 : AHeap), j26 t26 h_16 = some (rR, hR) → WL Try.prog w0 m0 (Func.ntmps Try.f14) (Code.ops (Code.p1 (Code.p1 (Code.p2 (codeOf Try.f14))))) 19 K5 [(1, .int .i64 t1), (2, .int .i64 t2), (3, v3), (26, .bool t26)] [] h_16 := by
          intro t26 h_16 hF
          rw [e17] at hF
          refine WL.val (d := (some 27)) (v := .bool t26) (h' := h_16) (by kernel_rfl) (by kernel_rfl) (by kernel_rfl) ?_
          replace hF := lett_some hF; obtain ⟨j31, e20, hF⟩ := hF
          have J21 : ∀ (t31 : Bool) (h_19 : AHeap), j31 t31 h_19 = some (rR, hR) → WL Try.prog w0 m0 (Func.ntmps Try.f14) (Code.ops (Code.p1 (Code.p1 (Code.p2 (codeOf Try.f14))))) 24 K5 [(1, .int .i64 t1), (2, .int .i64 t2), (3, v3), (31, .bool t31)] [] h_19 := by
            intro t31 h_19 hF
            rw [e20] at hF
            refine WL.nil (by kernel_rfl) ?_
            refine Go.weaken (l' := [(1, .int .i64 t1), (2, .int .i64 t2), (3, v3), (31, .bool t31)]) (Fr.sub_cons (by kernel_rfl) (Fr.sub_cons (by kernel_rfl) (Fr.sub_cons (by kernel_rfl) (Fr.sub_cons (by kernel_rfl) (Fr.sub_nil _))))) ?_
            refine n5 ?_
            cases t31 with
            | true =>
              replace hF := ifB_t hF
              refine W.cond_true (by kernel_rfl) (by kernel_rfl) ?_
              refine W.seqK (by kernel_rfl) (fun K22 n22 e22 r22 p22 => ?_)
              refine W.region (by kernel_rfl) ?_
              refine WL.val (d := (some 6)) (v := .bool false) (h' := h_19) (by kernel_rfl) (by kernel_rfl) (by kernel_rfl) ?_
              refine WL.nil (by kernel_rfl) ?_
              refine Go.weaken (l' := [(6, .bool false)]) (Fr.sub_cons (by kernel_rfl) (Fr.sub_nil _)) ?_
              refine n22 ?_
              refine W.ret (by kernel_rfl) ?_
              refine r4 ?_
              obtain ⟨hF, hF2⟩ := ret_inj hF; subst hF; subst hF2
              exact leave_of (rs := [.tmp 6]) (vs := [.bool false]) (by kernel_rfl) (res_tmp (by kernel_rfl) res_nil) (by kernel_rfl)
            | false =>
              replace hF := ifB_f hF
              refine W.cond_false (by kernel_rfl) (by kernel_rfl) ?_
              refine W.skip (by kernel_rfl) ?_
              refine n4 ?_
              refine W.seqK (by kernel_rfl) (fun K23 n23 e23 r23 p23 => ?_)
              refine W.seqK (by kernel_rfl) (fun K24 n24 e24 r24 p24 => ?_)
              refine W.region (by kernel_rfl) ?_
              refine WL.val (d := (some 7)) (v := .int .i64 0) (h' := h_19) (by kernel_rfl) (by kernel_rfl) (by kernel_rfl) ?_
              refine WL.nil (by kernel_rfl) ?_
              refine Go.weaken (l' := [(1, .int .i64 t1), (2, .int .i64 t2), (3, v3), (7, .int .i64 0)]) (Fr.sub_cons (by kernel_rfl) (Fr.sub_cons (by kernel_rfl) (Fr.sub_cons (by kernel_rfl) (Fr.sub_cons (by kernel_rfl) (Fr.sub_nil _))))) ?_
              refine n24 ?_
              replace hF := lett_some hF; obtain ⟨k26, e26, hF⟩ := hF
              have J26 : ∀  (h_27 : AHeap), k26 h_27 = some (rR, hR) → Go w0 m0 (Func.ntmps Try.f14) (K23 .normal) [] [] h_27 := by
                intro  h_27 hF
                rw [e26] at hF
                refine n23 ?_
                refine W.seqK (by kernel_rfl) (fun K28 n28 e28 r28 p28 => ?_)
                refine W.region (by kernel_rfl) ?_
                refine WL.val (d := (some 6)) (v := .bool false) (h' := h_27) (by kernel_rfl) (by kernel_rfl) (by kernel_rfl) ?_
                refine WL.nil (by kernel_rfl) ?_
                refine Go.weaken (l' := [(6, .bool false)]) (Fr.sub_cons (by kernel_rfl) (Fr.sub_nil _)) ?_
                refine n28 ?_
                refine W.ret (by kernel_rfl) ?_
                obtain ⟨hF, hF2⟩ := ret_inj hF; subst hF; subst hF2
                exact leave_of (rs := [.tmp 6]) (vs := [.bool false]) (by kernel_rfl) (res_tmp (by kernel_rfl) res_nil) (by kernel_rfl)
              refine W.blockK (by kernel_rfl) (fun K25 n25 s25 o25 r25 p25 => ?_)
              refine W.loopK (by kernel_rfl) (fun I29 K29 b29 n29 e29 r29 p29 => ?_)
              have L29 : ∀ (m : Nat) (t7 : Int) (h_30 : AHeap), ref20_Held_L0 call t1 t2 v3 k26 m t7 h_30 = some (rR, hR) → Go w0 m0 (Func.ntmps Try.f14) I29 [(1, .int .i64 t1), (2, .int .i64 t2), (3, v3), (7, .int .i64 t7)] [] h_30 := by
                intro m
                induction m with
                | zero => intro t7 h_30 hF; cases hF
                | succ m ih29 =>
                  intro t7 h_30 hF
                  rw [ref20_Held_L0_s] at hF; unfold ref20_Held_L0b at hF
                  refine b29 ?_
                  refine W.seqK (by kernel_rfl) (fun K31 n31 e31 r31 p31 => ?_)
                  refine W.seqK (by kernel_rfl) (fun K32 n32 e32 r32 p32 => ?_)
                  refine W.region (by kernel_rfl) ?_
                  refine WL.val (d := (some 32)) (v := .int .i64 t7) (h' := h_30) (by kernel_rfl) (by kernel_rfl) (by kernel_rfl) ?_
                  replace hF := lett_some hF; obtain ⟨t33, e33, hF⟩ := hF
                  refine WL.val (d := (some 33)) (v := .bool t33) (h' := h_30) (by kernel_rfl) (by kernel_rfl) (val_of AV.bool e33 (by kernel_rfl)) ?_
                  refine WL.nil (by kernel_rfl) ?_
                  refine Go.weaken (l' := [(1, .int .i64 t1), (2, .int .i64 t2), (3, v3), (7, .int .i64 t7), (33, .bool t33)]) (Fr.sub_cons (by kernel_rfl) (Fr.sub_cons (by kernel_rfl) (Fr.sub_cons (by kernel_rfl) (Fr.sub_cons (by kernel_rfl) (Fr.sub_cons (by kernel_rfl) (Fr.sub_nil _)))))) ?_
                  refine n32 ?_
                  cases t33 with
                  | true =>
                    replace hF := ifB_t hF
                    refine W.cond_true (by kernel_rfl) (by kernel_rfl) ?_
                    refine W.skip (by kernel_rfl) ?_
                    refine n31 ?_
                    refine W.seqK (by kernel_rfl) (fun K34 n34 e34 r34 p34 => ?_)
                    refine W.blockK (by kernel_rfl) (fun K35 n35 s35 o35 r35 p35 => ?_)
                    refine W.seqK (by kernel_rfl) (fun K36 n36 e36 r36 p36 => ?_)
                    replace hF := lett_some hF; obtain ⟨k37, e37, hF⟩ := hF
                    have J37 : ∀ (t59 : Bool) (h_38 : AHeap), k37 t59 h_38 = some (rR, hR) → Go w0 m0 (Func.ntmps Try.f14) (K36 .normal) [(1, .int .i64 t1), (2, .int .i64 t2), (3, v3), (7, .int .i64 t7), (59, .bool t59)] [] h_38 := by
                      intro t59 h_38 hF
                      rw [e37] at hF
                      refine n36 ?_
                      cases t59 with
                      | true =>
                        replace hF := ifB_t hF
                        refine W.cond_true (by kernel_rfl) (by kernel_rfl) ?_
                        refine W.seqK (by kernel_rfl) (fun K39 n39 e39 r39 p39 => ?_)
                        refine W.region (by kernel_rfl) ?_
                        refine WL.val (d := (some 6)) (v := .bool true) (h' := h_38) (by kernel_rfl) (by kernel_rfl) (by kernel_rfl) ?_
                        refine WL.nil (by kernel_rfl) ?_
                        refine Go.weaken (l' := [(6, .bool true)]) (Fr.sub_cons (by kernel_rfl) (Fr.sub_nil _)) ?_
                        refine n39 ?_
                        refine W.ret (by kernel_rfl) ?_
                        refine r35 ?_
                        refine r34 ?_
                        refine r29 ?_
                        refine r25 ?_
                        refine r23 ?_
                        obtain ⟨hF, hF2⟩ := ret_inj hF; subst hF; subst hF2
                        exact leave_of (rs := [.tmp 6]) (vs := [.bool true]) (by kernel_rfl) (res_tmp (by kernel_rfl) res_nil) (by kernel_rfl)
                      | false =>
                        replace hF := ifB_f hF
                        refine W.cond_false (by kernel_rfl) (by kernel_rfl) ?_
                        refine W.skip (by kernel_rfl) ?_
                        refine n35 ?_
                        refine n34 ?_
                        refine W.region (by kernel_rfl) ?_
                        refine WL.val (d := (some 34)) (v := .int .i64 t7) (h' := h_38) (by kernel_rfl) (by kernel_rfl) (by kernel_rfl) ?_
                        replace hF := lett_some hF; obtain ⟨t35, e40, hF⟩ := hF
                        refine WL.val (d := (some 35)) (v := .int .i64 t35) (h' := h_38) (by kernel_rfl) (by kernel_rfl) (val_of (AV.int .i64) e40 (by kernel_rfl)) ?_
                        refine WL.val (d := (some 7)) (v := .int .i64 t35) (h' := h_38) (by kernel_rfl) (by kernel_rfl) (by kernel_rfl) ?_
                        refine WL.nil (by kernel_rfl) ?_
                        refine Go.weaken (l' := [(1, .int .i64 t1), (2, .int .i64 t2), (3, v3), (7, .int .i64 t35)]) (Fr.sub_cons (by kernel_rfl) (Fr.sub_cons (by kernel_rfl) (Fr.sub_cons (by kernel_rfl) (Fr.sub_cons (by kernel_rfl) (Fr.sub_nil _))))) ?_
                        refine n29 ?_
                        exact Go.weaken (Fr.sub_cons (by kernel_rfl) (Fr.sub_cons (by kernel_rfl) (Fr.sub_cons (by kernel_rfl) (Fr.sub_cons (by kernel_rfl) (Fr.sub_nil _))))) (ih29 _ _ hF)
                    refine W.draw (by kernel_rfl) (hc.ok w0) (plan := [0, 1, 2, 3, 4, 5, 6, 7, 8, 9, 10, 11, 12, 13, 14, 15, 16, 17, 18, 19, 20, 21, 22, 23]) (by kernel_rfl) (by kernel_rfl) (by kernel_rfl) ?_
                    refine WD.val (d := (some 36)) (v := .int .i64 t7) (h' := h_30) (by kernel_rfl) (by kernel_rfl) (by kernel_rfl) (k := 0) (by kernel_rfl) (fun e => absurd e (by decide)) (by decide) ?_
                    refine WD.val (d := (some 37)) (v := .int .i64 t1) (h' := h_30) (by kernel_rfl) (by kernel_rfl) (by kernel_rfl) (k := 0) (by kernel_rfl) (fun e => absurd e (by decide)) (by decide) ?_
                    replace hF := lett_some hF; obtain ⟨t38, e41, hF⟩ := hF
                    refine WD.val (d := (some 38)) (v := .bool t38) (h' := h_30) (by kernel_rfl) (by kernel_rfl) (val_of AV.bool e41 (by kernel_rfl)) (k := 0) (by kernel_rfl) (fun e => absurd e (by decide)) (by decide) ?_
                    refine WD.val (d := (some 39)) (v := .bool t38) (h' := h_30) (by kernel_rfl) (by kernel_rfl) (by kernel_rfl) (k := 0) (by kernel_rfl) (fun e => absurd e (by decide)) (by decide) ?_
                    cases t38 with
                    | true =>
                      replace hF := ifB_t hF
                      refine WD.val (d := (some 40)) (v := .int .i64 t7) (h' := h_30) (by kernel_rfl) (by kernel_rfl) (by kernel_rfl) (k := 0) (by kernel_rfl) (fun e => absurd e (by decide)) (by decide) ?_
                      replace hF := obind_some hF; obtain ⟨t41, e42, hF⟩ := hF
                      refine WD.val (d := (some 41)) (v := t41) (h' := h_30) (by kernel_rfl) (by kernel_rfl) (Eq.trans (by kernel_rfl) (field_ptr (P := Try.prog) (h := h_30) (s := 32) (f := 8) (by kernel_rfl) e42)) (k := 0) (by kernel_rfl) (fun e => absurd e (by decide)) (by decide) ?_
                      replace hF := obind_some hF; obtain ⟨t42, e43, hF⟩ := hF
                      refine WD.val (d := (some 42)) (v := t42) (h' := h_30) (by kernel_rfl) (by kernel_rfl) (Eq.trans (by kernel_rfl) (index_arr (P := Try.prog) (h := h_30) (t := 26) (e' := 3) (k := .i64) (by kernel_rfl) (by kernel_rfl) (by kernel_rfl) e43)) (k := 0) (by kernel_rfl) (fun e => absurd e (by decide)) (by decide) ?_
                      replace hF := obind_some hF; obtain ⟨v43, e44, hF⟩ := hF
                      replace hF := obind_some hF; obtain ⟨t43, c45, hF⟩ := hF
                      have c45 := avInt_some c45
                      subst c45
                      refine WD.val (d := (some 43)) (v := .int .i64 t43) (h' := h_30) (by kernel_rfl) (by kernel_rfl) (Eq.trans (by kernel_rfl) (load_cell (P := Try.prog) (h := h_30) (t := 3) (by kernel_rfl) e44)) (k := 1) (by kernel_rfl) (fun e => absurd e (by decide)) (by decide) ?_
                      replace hF := obind_some hF; obtain ⟨t44, e46, hF⟩ := hF
                      refine WD.val (d := (some 44)) (v := t44) (h' := h_30) (by kernel_rfl) (by kernel_rfl) (Eq.trans (by kernel_rfl) (field_ptr (P := Try.prog) (h := h_30) (s := 32) (f := 6) (by kernel_rfl) e46)) (k := 0) (by kernel_rfl) (fun e => absurd e (by decide)) (by decide) ?_
                      replace hF := obind_some hF; obtain ⟨v45, e47, hF⟩ := hF
                      replace hF := obind_some hF; obtain ⟨t45, c48, hF⟩ := hF
                      have c48 := avInt_some c48
                      subst c48
                      refine WD.val (d := (some 45)) (v := .int .i64 t45) (h' := h_30) (by kernel_rfl) (by kernel_rfl) (Eq.trans (by kernel_rfl) (load_cell (P := Try.prog) (h := h_30) (t := 3) (by kernel_rfl) e47)) (k := 1) (by kernel_rfl) (fun e => absurd e (by decide)) (by decide) ?_
                      replace hF := lett_some hF; obtain ⟨t46, e49, hF⟩ := hF
                      refine WD.val (d := (some 46)) (v := .bool t46) (h' := h_30) (by kernel_rfl) (by kernel_rfl) (val_of AV.bool e49 (by kernel_rfl)) (k := 0) (by kernel_rfl) (fun e => absurd e (by decide)) (by decide) ?_
                      refine WD.val (d := (some 47)) (v := .bool t46) (h' := h_30) (by kernel_rfl) (by kernel_rfl) (by kernel_rfl) (k := 0) (by kernel_rfl) (fun e => absurd e (by decide)) (by decide) ?_
                      refine WD.val (d := (some 48)) (v := .bool t46) (h' := h_30) (by kernel_rfl) (by kernel_rfl) (by kernel_rfl) (k := 0) (by kernel_rfl) (fun e => absurd e (by decide)) (by decide) ?_
                      cases t46 with
                      | true =>
                        replace hF := ifB_t hF
                        refine WD.val (d := (some 49)) (v := .int .i64 t7) (h' := h_30) (by kernel_rfl) (by kernel_rfl) (by kernel_rfl) (k := 0) (by kernel_rfl) (fun e => absurd e (by decide)) (by decide) ?_
                        replace hF := obind_some hF; obtain ⟨t50, e50, hF⟩ := hF
                        refine WD.val (d := (some 50)) (v := t50) (h' := h_30) (by kernel_rfl) (by kernel_rfl) (Eq.trans (by kernel_rfl) (field_ptr (P := Try.prog) (h := h_30) (s := 32) (f := 8) (by kernel_rfl) e50)) (k := 0) (by kernel_rfl) (fun e => absurd e (by decide)) (by decide) ?_
                        replace hF := obind_some hF; obtain ⟨t51, e51, hF⟩ := hF
                        refine WD.val (d := (some 51)) (v := t51) (h' := h_30) (by kernel_rfl) (by kernel_rfl) (Eq.trans (by kernel_rfl) (index_arr (P := Try.prog) (h := h_30) (t := 26) (e' := 3) (k := .i64) (by kernel_rfl) (by kernel_rfl) (by kernel_rfl) e51)) (k := 0) (by kernel_rfl) (fun e => absurd e (by decide)) (by decide) ?_
                        replace hF := obind_some hF; obtain ⟨v52, e52, hF⟩ := hF
                        replace hF := obind_some hF; obtain ⟨t52, c53, hF⟩ := hF
                        have c53 := avInt_some c53
                        subst c53
                        refine WD.val (d := (some 52)) (v := .int .i64 t52) (h' := h_30) (by kernel_rfl) (by kernel_rfl) (Eq.trans (by kernel_rfl) (load_cell (P := Try.prog) (h := h_30) (t := 3) (by kernel_rfl) e52)) (k := 1) (by kernel_rfl) (fun e => absurd e (by decide)) (by decide) ?_
                        replace hF := obind_some hF; obtain ⟨t53, e54, hF⟩ := hF
                        refine WD.val (d := (some 53)) (v := t53) (h' := h_30) (by kernel_rfl) (by kernel_rfl) (Eq.trans (by kernel_rfl) (field_ptr (P := Try.prog) (h := h_30) (s := 32) (f := 6) (by kernel_rfl) e54)) (k := 0) (by kernel_rfl) (fun e => absurd e (by decide)) (by decide) ?_
                        replace hF := obind_some hF; obtain ⟨v54, e55, hF⟩ := hF
                        replace hF := obind_some hF; obtain ⟨t54, c56, hF⟩ := hF
                        have c56 := avInt_some c56
                        subst c56
                        refine WD.val (d := (some 54)) (v := .int .i64 t54) (h' := h_30) (by kernel_rfl) (by kernel_rfl) (Eq.trans (by kernel_rfl) (load_cell (P := Try.prog) (h := h_30) (t := 3) (by kernel_rfl) e55)) (k := 1) (by kernel_rfl) (fun e => absurd e (by decide)) (by decide) ?_
                        refine WD.val (d := (some 55)) (v := .int .i64 t2) (h' := h_30) (by kernel_rfl) (by kernel_rfl) (by kernel_rfl) (k := 0) (by kernel_rfl) (fun e => absurd e (by decide)) (by decide) ?_
                        replace hF := callN_some hF; obtain ⟨r56, h_57, e58, hF⟩ := hF
                        replace hF := obind_some hF; obtain ⟨t56, c59, hF⟩ := hF
                        have c59 := avInt_some c59
                        subst c59
                        replace hF := chk_some hF; obtain ⟨k60, hF⟩ := hF
                        refine WD.call (d := (some 56)) (by kernel_rfl) (by kernel_rfl) (by kernel_rfl) e58 (k := 2) (by kernel_rfl) (fun _ => (Eq.trans (by kernel_rfl) k60)) (by decide) ?_
                        replace hF := lett_some hF; obtain ⟨t57, e61, hF⟩ := hF
                        refine WD.val (d := (some 57)) (v := .int .i64 t57) (h' := h_57) (by kernel_rfl) (by kernel_rfl) (val_of (AV.int .i64) e61 (by kernel_rfl)) (k := 0) (by kernel_rfl) (fun e => absurd e (by decide)) (by decide) ?_
                        replace hF := lett_some hF; obtain ⟨t58, e62, hF⟩ := hF
                        refine WD.val (d := (some 58)) (v := .bool t58) (h' := h_57) (by kernel_rfl) (by kernel_rfl) (val_of AV.bool e62 (by kernel_rfl)) (k := 0) (by kernel_rfl) (fun e => absurd e (by decide)) (by decide) ?_
                        refine WD.val (d := (some 59)) (v := .bool t58) (h' := h_57) (by kernel_rfl) (by kernel_rfl) (by kernel_rfl) (k := 0) (by kernel_rfl) (fun e => absurd e (by decide)) (by decide) ?_
                        refine WD.nil ?_
                        exact Go.weaken (Fr.sub_cons (by kernel_rfl) (Fr.sub_cons (by kernel_rfl) (Fr.sub_cons (by kernel_rfl) (Fr.sub_cons (by kernel_rfl) (Fr.sub_cons (by kernel_rfl) (Fr.sub_nil _)))))) (J37 _ _ hF)
                      | false =>
                        replace hF := ifB_f hF
                        refine WD.not (d := (some 49)) (by kernel_rfl) (by kernel_rfl) (k := 0) (by kernel_rfl) (fun e => absurd e (by decide)) (by decide) ?_
                        refine WD.not (d := (some 50)) (by kernel_rfl) (by kernel_rfl) (k := 0) (by kernel_rfl) (fun e => absurd e (by decide)) (by decide) ?_
                        refine WD.not (d := (some 51)) (by kernel_rfl) (by kernel_rfl) (k := 0) (by kernel_rfl) (fun e => absurd e (by decide)) (by decide) ?_
                        refine WD.not (d := (some 52)) (by kernel_rfl) (by kernel_rfl) (k := 1) (by kernel_rfl) (fun e => absurd e (by decide)) (by decide) ?_
                        refine WD.not (d := (some 53)) (by kernel_rfl) (by kernel_rfl) (k := 0) (by kernel_rfl) (fun e => absurd e (by decide)) (by decide) ?_
                        refine WD.not (d := (some 54)) (by kernel_rfl) (by kernel_rfl) (k := 1) (by kernel_rfl) (fun e => absurd e (by decide)) (by decide) ?_
                        refine WD.not (d := (some 55)) (by kernel_rfl) (by kernel_rfl) (k := 0) (by kernel_rfl) (fun e => absurd e (by decide)) (by decide) ?_
                        refine WD.not (d := (some 56)) (by kernel_rfl) (by kernel_rfl) (k := 2) (by kernel_rfl) (fun _ => (by kernel_rfl)) (by decide) ?_
                        refine WD.not (d := (some 57)) (by kernel_rfl) (by kernel_rfl) (k := 0) (by kernel_rfl) (fun e => absurd e (by decide)) (by decide) ?_
                        refine WD.not (d := (some 58)) (by kernel_rfl) (by kernel_rfl) (k := 0) (by kernel_rfl) (fun e => absurd e (by decide)) (by decide) ?_
                        refine WD.val (d := (some 59)) (v := .bool false) (h' := h_30) (by kernel_rfl) (by kernel_rfl) (by kernel_rfl) (k := 0) (by kernel_rfl) (fun e => absurd e (by decide)) (by decide) ?_
                        refine WD.nil ?_
                        exact Go.weaken (Fr.sub_cons (by kernel_rfl) (Fr.sub_cons (by kernel_rfl) (Fr.sub_cons (by kernel_rfl) (Fr.sub_cons (by kernel_rfl) (Fr.sub_cons (by kernel_rfl) (Fr.sub_nil _)))))) (J37 _ _ hF)
                    | false =>
                      replace hF := ifB_f hF
                      refine WD.not (d := (some 40)) (by kernel_rfl) (by kernel_rfl) (k := 0) (by kernel_rfl) (fun e => absurd e (by decide)) (by decide) ?_
                      refine WD.not (d := (some 41)) (by kernel_rfl) (by kernel_rfl) (k := 0) (by kernel_rfl) (fun e => absurd e (by decide)) (by decide) ?_
                      refine WD.not (d := (some 42)) (by kernel_rfl) (by kernel_rfl) (k := 0) (by kernel_rfl) (fun e => absurd e (by decide)) (by decide) ?_
                      refine WD.not (d := (some 43)) (by kernel_rfl) (by kernel_rfl) (k := 1) (by kernel_rfl) (fun e => absurd e (by decide)) (by decide) ?_
                      refine WD.not (d := (some 44)) (by kernel_rfl) (by kernel_rfl) (k := 0) (by kernel_rfl) (fun e => absurd e (by decide)) (by decide) ?_
                      refine WD.not (d := (some 45)) (by kernel_rfl) (by kernel_rfl) (k := 1) (by kernel_rfl) (fun e => absurd e (by decide)) (by decide) ?_
                      refine WD.not (d := (some 46)) (by kernel_rfl) (by kernel_rfl) (k := 0) (by kernel_rfl) (fun e => absurd e (by decide)) (by decide) ?_
                      refine WD.val (d := (some 47)) (v := .bool false) (h' := h_30) (by kernel_rfl) (by kernel_rfl) (by kernel_rfl) (k := 0) (by kernel_rfl) (fun e => absurd e (by decide)) (by decide) ?_
                      refine WD.val (d := (some 48)) (v := .bool false) (h' := h_30) (by kernel_rfl) (by kernel_rfl) (by kernel_rfl) (k := 0) (by kernel_rfl) (fun e => absurd e (by decide)) (by decide) ?_
                      refine WD.not (d := (some 49)) (by kernel_rfl) (by kernel_rfl) (k := 0) (by kernel_rfl) (fun e => absurd e (by decide)) (by decide) ?_
                      refine WD.not (d := (some 50)) (by kernel_rfl) (by kernel_rfl) (k := 0) (by kernel_rfl) (fun e => absurd e (by decide)) (by decide) ?_
                      refine WD.not (d := (some 51)) (by kernel_rfl) (by kernel_rfl) (k := 0) (by kernel_rfl) (fun e => absurd e (by decide)) (by decide) ?_
                      refine WD.not (d := (some 52)) (by kernel_rfl) (by kernel_rfl) (k := 1) (by kernel_rfl) (fun e => absurd e (by decide)) (by decide) ?_
                      refine WD.not (d := (some 53)) (by kernel_rfl) (by kernel_rfl) (k := 0) (by kernel_rfl) (fun e => absurd e (by decide)) (by decide) ?_
                      refine WD.not (d := (some 54)) (by kernel_rfl) (by kernel_rfl) (k := 1) (by kernel_rfl) (fun e => absurd e (by decide)) (by decide) ?_
                      refine WD.not (d := (some 55)) (by kernel_rfl) (by kernel_rfl) (k := 0) (by kernel_rfl) (fun e => absurd e (by decide)) (by decide) ?_
                      refine WD.not (d := (some 56)) (by kernel_rfl) (by kernel_rfl) (k := 2) (by kernel_rfl) (fun _ => (by kernel_rfl)) (by decide) ?_
                      refine WD.not (d := (some 57)) (by kernel_rfl) (by kernel_rfl) (k := 0) (by kernel_rfl) (fun e => absurd e (by decide)) (by decide) ?_
                      refine WD.not (d := (some 58)) (by kernel_rfl) (by kernel_rfl) (k := 0) (by kernel_rfl) (fun e => absurd e (by decide)) (by decide) ?_
                      refine WD.val (d := (some 59)) (v := .bool false) (h' := h_30) (by kernel_rfl) (by kernel_rfl) (by kernel_rfl) (k := 0) (by kernel_rfl) (fun e => absurd e (by decide)) (by decide) ?_
                      refine WD.nil ?_
                      exact Go.weaken (Fr.sub_cons (by kernel_rfl) (Fr.sub_cons (by kernel_rfl) (Fr.sub_cons (by kernel_rfl) (Fr.sub_cons (by kernel_rfl) (Fr.sub_cons (by kernel_rfl) (Fr.sub_nil _)))))) (J37 _ _ hF)
                  | false =>
                    replace hF := ifB_f hF
                    refine W.cond_false (by kernel_rfl) (by kernel_rfl) ?_
                    refine W.exit (by kernel_rfl) ?_
                    refine e31 ?_
                    refine e29 ?_
                    refine s25 (by kernel_rfl) ?_
                    exact Go.weaken (Fr.sub_nil _) (J26 _ hF)
              exact Go.weaken (Fr.sub_cons (by kernel_rfl) (Fr.sub_cons (by kernel_rfl) (Fr.sub_cons (by kernel_rfl) (Fr.sub_cons (by kernel_rfl) (Fr.sub_nil _))))) (L29 _ _ _ hF)
          cases t26 with
          | true =>
            replace hF := ifB_t hF
            refine WL.not (d := (some 28)) (by kernel_rfl) (by kernel_rfl) ?_
            refine WL.not (d := (some 29)) (by kernel_rfl) (by kernel_rfl) ?_
            refine WL.not (d := (some 30)) (by kernel_rfl) (by kernel_rfl) ?_
            refine WL.val (d := (some 31)) (v := .bool true) (h' := h_16) (by kernel_rfl) (by kernel_rfl) (by kernel_rfl) ?_
            exact WL.weaken (Fr.sub_cons (by kernel_rfl) (Fr.sub_cons (by kernel_rfl) (Fr.sub_cons (by kernel_rfl) (Fr.sub_cons (by kernel_rfl) (Fr.sub_nil _))))) (J21 _ _ hF)
          | false =>
            replace hF := ifB_f hF
            replace hF := obind_some hF; obtain ⟨t28, e63, hF⟩ := hF
            refine WL.val (d := (some 28)) (v := t28) (h' := h_16) (by kernel_rfl) (by kernel_rfl) (Eq.trans (by kernel_rfl) (field_ptr (P := Try.prog) (h := h_16) (s := 32) (f := 7) (by kernel_rfl) e63)) ?_
            replace hF := obind_some hF; obtain ⟨v29, e64, hF⟩ := hF
            replace hF := obind_some hF; obtain ⟨t29, c65, hF⟩ := hF
            have c65 := avBool_some c65
            subst c65
            refine WL.val (d := (some 29)) (v := .bool t29) (h' := h_16) (by kernel_rfl) (by kernel_rfl) (Eq.trans (by kernel_rfl) (load_cell (P := Try.prog) (h := h_16) (t := 4) (by kernel_rfl) e64)) ?_
            replace hF := lett_some hF; obtain ⟨t30, e66, hF⟩ := hF
            refine WL.val (d := (some 30)) (v := .bool t30) (h' := h_16) (by kernel_rfl) (by kernel_rfl) (val_of AV.bool e66 (by kernel_rfl)) ?_
            refine WL.val (d := (some 31)) (v := .bool t30) (h' := h_16) (by kernel_rfl) (by kernel_rfl) (by kernel_rfl) ?_
            exact WL.weaken (Fr.sub_cons (by kernel_rfl) (Fr.sub_cons (by kernel_rfl) (Fr.sub_cons (by kernel_rfl) (Fr.sub_cons (by kernel_rfl) (Fr.sub_nil _))))) (J21 _ _ hF)
        cases t21 with
        | true =>
          replace hF := ifB_t hF
          refine WL.not (d := (some 23)) (by kernel_rfl) (by kernel_rfl) ?_
          refine WL.not (d := (some 24)) (by kernel_rfl) (by kernel_rfl) ?_
          refine WL.not (d := (some 25)) (by kernel_rfl) (by kernel_rfl) ?_
          refine WL.val (d := (some 26)) (v := .bool true) (h' := h_13) (by kernel_rfl) (by kernel_rfl) (by kernel_rfl) ?_
          exact WL.weaken (Fr.sub_cons (by kernel_rfl) (Fr.sub_cons (by kernel_rfl) (Fr.sub_cons (by kernel_rfl) (Fr.sub_cons (by kernel_rfl) (Fr.sub_nil _))))) (J18 _ _ hF)
        | false =>
          replace hF := ifB_f hF
          replace hF := obind_some hF; obtain ⟨t23, e67, hF⟩ := hF
          refine WL.val (d := (some 23)) (v := t23) (h' := h_13) (by kernel_rfl) (by kernel_rfl) (Eq.trans (by kernel_rfl) (field_ptr (P := Try.prog) (h := h_13) (s := 32) (f := 0) (by kernel_rfl) e67)) ?_
          replace hF := obind_some hF; obtain ⟨v24, e68, hF⟩ := hF
          replace hF := obind_some hF; obtain ⟨t24, c69, hF⟩ := hF
          have c69 := avInt_some c69
          subst c69
          refine WL.val (d := (some 24)) (v := .int .u8 t24) (h' := h_13) (by kernel_rfl) (by kernel_rfl) (Eq.trans (by kernel_rfl) (load_cell (P := Try.prog) (h := h_13) (t := 5) (by kernel_rfl) e68)) ?_
          replace hF := lett_some hF; obtain ⟨t25, e70, hF⟩ := hF
          refine WL.val (d := (some 25)) (v := .bool t25) (h' := h_13) (by kernel_rfl) (by kernel_rfl) (val_of AV.bool e70 (by kernel_rfl)) ?_
          refine WL.val (d := (some 26)) (v := .bool t25) (h' := h_13) (by kernel_rfl) (by kernel_rfl) (by kernel_rfl) ?_
          exact WL.weaken (Fr.sub_cons (by kernel_rfl) (Fr.sub_cons (by kernel_rfl) (Fr.sub_cons (by kernel_rfl) (Fr.sub_cons (by kernel_rfl) (Fr.sub_nil _))))) (J18 _ _ hF)
      cases t17 with
      | true =>
        replace hF := ifB_t hF
        refine WL.not (d := (some 19)) (by kernel_rfl) (by kernel_rfl) ?_
        refine WL.not (d := (some 20)) (by kernel_rfl) (by kernel_rfl) ?_
        refine WL.val (d := (some 21)) (v := .bool true) (h' := h_10) (by kernel_rfl) (by kernel_rfl) (by kernel_rfl) ?_
        exact WL.weaken (Fr.sub_cons (by kernel_rfl) (Fr.sub_cons (by kernel_rfl) (Fr.sub_cons (by kernel_rfl) (Fr.sub_cons (by kernel_rfl) (Fr.sub_nil _))))) (J15 _ _ hF)
      | false =>
        replace hF := ifB_f hF
        refine WL.val (d := (some 19)) (v := .int .i64 t1) (h' := h_10) (by kernel_rfl) (by kernel_rfl) (by kernel_rfl) ?_
        replace hF := lett_some hF; obtain ⟨t20, e71, hF⟩ := hF
        refine WL.val (d := (some 20)) (v := .bool t20) (h' := h_10) (by kernel_rfl) (by kernel_rfl) (val_of AV.bool e71 (by kernel_rfl)) ?_
        refine WL.val (d := (some 21)) (v := .bool t20) (h' := h_10) (by kernel_rfl) (by kernel_rfl) (by kernel_rfl) ?_
        exact WL.weaken (Fr.sub_cons (by kernel_rfl) (Fr.sub_cons (by kernel_rfl) (Fr.sub_cons (by kernel_rfl) (Fr.sub_cons (by kernel_rfl) (Fr.sub_nil _))))) (J15 _ _ hF)
    cases t13 with
    | true =>
      replace hF := ifB_t hF
      refine WL.not (d := (some 15)) (by kernel_rfl) (by kernel_rfl) ?_
      refine WL.not (d := (some 16)) (by kernel_rfl) (by kernel_rfl) ?_
      refine WL.val (d := (some 17)) (v := .bool true) (h' := h_7) (by kernel_rfl) (by kernel_rfl) (by kernel_rfl) ?_
      exact WL.weaken (Fr.sub_cons (by kernel_rfl) (Fr.sub_cons (by kernel_rfl) (Fr.sub_cons (by kernel_rfl) (Fr.sub_cons (by kernel_rfl) (Fr.sub_nil _))))) (J12 _ _ hF)
    | false =>
      replace hF := ifB_f hF
      refine WL.val (d := (some 15)) (v := .int .i64 t1) (h' := h_7) (by kernel_rfl) (by kernel_rfl) (by kernel_rfl) ?_
      replace hF := lett_some hF; obtain ⟨t16, e72, hF⟩ := hF
      refine WL.val (d := (some 16)) (v := .bool t16) (h' := h_7) (by kernel_rfl) (by kernel_rfl) (val_of AV.bool e72 (by kernel_rfl)) ?_
      refine WL.val (d := (some 17)) (v := .bool t16) (h' := h_7) (by kernel_rfl) (by kernel_rfl) (by kernel_rfl) ?_
      exact WL.weaken (Fr.sub_cons (by kernel_rfl) (Fr.sub_cons (by kernel_rfl) (Fr.sub_cons (by kernel_rfl) (Fr.sub_cons (by kernel_rfl) (Fr.sub_nil _))))) (J12 _ _ hF)
  cases t9 with
  | true =>
    replace hF := ifB_t hF
    refine WL.not (d := (some 11)) (by kernel_rfl) (by kernel_rfl) ?_
    refine WL.not (d := (some 12)) (by kernel_rfl) (by kernel_rfl) ?_
    refine WL.val (d := (some 13)) (v := .bool true) (h' := h_2) (by kernel_rfl) (by kernel_rfl) (by kernel_rfl) ?_
    exact WL.weaken (Fr.sub_cons (by kernel_rfl) (Fr.sub_cons (by kernel_rfl) (Fr.sub_cons (by kernel_rfl) (Fr.sub_cons (by kernel_rfl) (Fr.sub_nil _))))) (J9 _ _ hF)
  | false =>
    replace hF := ifB_f hF
    refine WL.val (d := (some 11)) (v := .int .i64 t2) (h' := h_2) (by kernel_rfl) (by kernel_rfl) (by kernel_rfl) ?_
    replace hF := lett_some hF; obtain ⟨t12, e73, hF⟩ := hF
    refine WL.val (d := (some 12)) (v := .bool t12) (h' := h_2) (by kernel_rfl) (by kernel_rfl) (val_of AV.bool e73 (by kernel_rfl)) ?_
    refine WL.val (d := (some 13)) (v := .bool t12) (h' := h_2) (by kernel_rfl) (by kernel_rfl) (by kernel_rfl) ?_
    exact WL.weaken (Fr.sub_cons (by kernel_rfl) (Fr.sub_cons (by kernel_rfl) (Fr.sub_cons (by kernel_rfl) (Fr.sub_cons (by kernel_rfl) (Fr.sub_nil _))))) (J9 _ _ hF)
noncomputable def ref20_Held_fn (call : CallF) (n : Nat) : FnT := fun args h => match args with
  | [x0, x1, x2] => obind (avAgg x0) fun t0 => obind (avInt .i64 x1) fun t1 => obind (avInt .i64 x2) fun t2 => ref20_Held call n t0 t1 t2 h
  | _ => none
set_option maxRecDepth 100000 in
theorem ref20_Held_fn_eq (call : CallF) (n : Nat) (t0 : List AV) (t1 : Int) (t2 : Int) (h : AHeap) : ref20_Held_fn call n [.agg t0, .int .i64 t1, .int .i64 t2] h = ref20_Held call n t0 t1 t2 h :=
  (Eq.trans (obind_eq (fun t0 => obind (avInt .i64 (.int .i64 t1)) fun t1 => obind (avInt .i64 (.int .i64 t2)) fun t2 => ref20_Held call n t0 t1 t2 h) (avAgg_agg t0)) (Eq.trans (obind_eq (fun t1 => obind (avInt .i64 (.int .i64 t2)) fun t2 => ref20_Held call n t0 t1 t2 h) (avInt_int .i64 t1)) (Eq.trans (obind_eq (fun t2 => ref20_Held call n t0 t1 t2 h) (avInt_int .i64 t2)) rfl)))
theorem ref20_Held_holds {call : CallF} (hc : SaysAll Try.prog call) (n : Nat) : Holds Try.prog 14 (ref20_Held_fn call n) := by
  intro args h r h2 e
  unfold ref20_Held_fn at e
  split at e
  · replace e := obind_some e; obtain ⟨t0, c0, e⟩ := e; have c0 := avAgg_some c0; subst c0
    replace e := obind_some e; obtain ⟨t1, c1, e⟩ := e; have c1 := avInt_some c1; subst c1
    replace e := obind_some e; obtain ⟨t2, c2, e⟩ := e; have c2 := avInt_some c2; subst c2
    exact ref20_Held_ok hc e
  · cases e

noncomputable def message_Above (_ : CallF) (_ : Nat) (t0 : List AV) (t1 : List AV) (h : AHeap) : R :=
  outK (opBox h 36 (some (.agg t0))) fun v2 h_2 =>
  outK (opBox h_2 36 (some (.agg t1))) fun v3 h_4 =>
  obind (fldP 0 v2) fun t5 =>
  obind (ldCell h_4 t5) fun v6 =>
  obind (avInt .i64 v6) fun t6 =>
  obind (fldP 0 v3) fun t7 =>
  obind (ldCell h_4 t7) fun v8 =>
  obind (avInt .i64 v8) fun t8 =>
  lett ((t6 : Int) != t8) fun (t9 : Bool) =>
  ifB t9
  (
    obind (fldP 0 v2) fun t10 =>
    obind (ldCell h_4 t10) fun v11 =>
    obind (avInt .i64 v11) fun t11 =>
    obind (fldP 0 v3) fun t12 =>
    obind (ldCell h_4 t12) fun v13 =>
    obind (avInt .i64 v13) fun t13 =>
    lett (decide (t11 > t13)) fun (t14 : Bool) =>
    some (.ret (.bool t14), h_4))
  (
    obind (fldP 1 v2) fun t15 =>
    obind (ldCell h_4 t15) fun v16 =>
    obind (avInt .i64 v16) fun t16 =>
    obind (fldP 1 v3) fun t17 =>
    obind (ldCell h_4 t17) fun v18 =>
    obind (avInt .i64 v18) fun t18 =>
    lett (decide (t16 > t18)) fun (t19 : Bool) =>
    some (.ret (.bool t19), h_4))
set_option maxHeartbeats 4000000 in
set_option maxRecDepth 20000 in
theorem message_Above_ok {call : CallF} (_ : SaysAll Try.prog call) {n : Nat} {t0 : List AV} {t1 : List AV} {h : AHeap} {rR : ARes} {hR : AHeap} (hF : message_Above call n t0 t1 h = some (rR, hR)) : Says Try.prog 20 [.agg t0, .agg t1] h rR hR := by
  unfold message_Above at hF
  refine says_of (fn := Try.f20) Try.func20 (c := codeOf Try.f20) (by kernel_rfl) (by kernel_rfl) (fun w0 m0 => ?_)
  refine W.weaken (l' := [(0, .agg t0), (1, .agg t1)]) (Fr.sub_cons (by kernel_rfl) (Fr.sub_cons (by kernel_rfl) (Fr.sub_nil _))) ?_
  refine W.seqK (by kernel_rfl) (fun K1 n1 e1 r1 p1 => ?_)
  refine W.region (by kernel_rfl) ?_
  replace hF := outK_some hF; obtain ⟨v2, h_2, e3, hF⟩ := hF
  refine WL.val (d := (some 2)) (v := v2) (h' := h_2) (by kernel_rfl) (by kernel_rfl) (Eq.trans (by kernel_rfl) e3) ?_
  replace hF := outK_some hF; obtain ⟨v3, h_4, e5, hF⟩ := hF
  refine WL.val (d := (some 3)) (v := v3) (h' := h_4) (by kernel_rfl) (by kernel_rfl) (Eq.trans (by kernel_rfl) e5) ?_
  refine WL.val (d := (some 4)) (v := .bool false) (h' := h_4) (by kernel_rfl) (by kernel_rfl) (by kernel_rfl) ?_
  refine WL.nil (by kernel_rfl) ?_
  refine Go.weaken (l' := [(2, v2), (3, v3)]) (Fr.sub_cons (by kernel_rfl) (Fr.sub_cons (by kernel_rfl) (Fr.sub_nil _))) ?_
  refine n1 ?_
  refine W.seqK (by kernel_rfl) (fun K6 n6 e6 r6 p6 => ?_)
  refine W.seqK (by kernel_rfl) (fun K7 n7 e7 r7 p7 => ?_)
  refine W.region (by kernel_rfl) ?_
  replace hF := obind_some hF; obtain ⟨t5, e8, hF⟩ := hF
  refine WL.val (d := (some 5)) (v := t5) (h' := h_4) (by kernel_rfl) (by kernel_rfl) (Eq.trans (by kernel_rfl) (field_ptr (P := Try.prog) (h := h_4) (s := 36) (f := 0) (by kernel_rfl) e8)) ?_
  replace hF := obind_some hF; obtain ⟨v6, e9, hF⟩ := hF
  replace hF := obind_some hF; obtain ⟨t6, c10, hF⟩ := hF
  have c10 := avInt_some c10
  subst c10
  refine WL.val (d := (some 6)) (v := .int .i64 t6) (h' := h_4) (by kernel_rfl) (by kernel_rfl) (Eq.trans (by kernel_rfl) (load_cell (P := Try.prog) (h := h_4) (t := 3) (by kernel_rfl) e9)) ?_
  replace hF := obind_some hF; obtain ⟨t7, e11, hF⟩ := hF
  refine WL.val (d := (some 7)) (v := t7) (h' := h_4) (by kernel_rfl) (by kernel_rfl) (Eq.trans (by kernel_rfl) (field_ptr (P := Try.prog) (h := h_4) (s := 36) (f := 0) (by kernel_rfl) e11)) ?_
  replace hF := obind_some hF; obtain ⟨v8, e12, hF⟩ := hF
  replace hF := obind_some hF; obtain ⟨t8, c13, hF⟩ := hF
  have c13 := avInt_some c13
  subst c13
  refine WL.val (d := (some 8)) (v := .int .i64 t8) (h' := h_4) (by kernel_rfl) (by kernel_rfl) (Eq.trans (by kernel_rfl) (load_cell (P := Try.prog) (h := h_4) (t := 3) (by kernel_rfl) e12)) ?_
  replace hF := lett_some hF; obtain ⟨t9, e14, hF⟩ := hF
  refine WL.val (d := (some 9)) (v := .bool t9) (h' := h_4) (by kernel_rfl) (by kernel_rfl) (val_of AV.bool e14 (by kernel_rfl)) ?_
  refine WL.nil (by kernel_rfl) ?_
  refine Go.weaken (l' := [(2, v2), (3, v3), (9, .bool t9)]) (Fr.sub_cons (by kernel_rfl) (Fr.sub_cons (by kernel_rfl) (Fr.sub_cons (by kernel_rfl) (Fr.sub_nil _)))) ?_
  refine n7 ?_
  cases t9 with
  | true =>
    replace hF := ifB_t hF
    refine W.cond_true (by kernel_rfl) (by kernel_rfl) ?_
    refine W.seqK (by kernel_rfl) (fun K15 n15 e15 r15 p15 => ?_)
    refine W.region (by kernel_rfl) ?_
    replace hF := obind_some hF; obtain ⟨t10, e16, hF⟩ := hF
    refine WL.val (d := (some 10)) (v := t10) (h' := h_4) (by kernel_rfl) (by kernel_rfl) (Eq.trans (by kernel_rfl) (field_ptr (P := Try.prog) (h := h_4) (s := 36) (f := 0) (by kernel_rfl) e16)) ?_
    replace hF := obind_some hF; obtain ⟨v11, e17, hF⟩ := hF
    replace hF := obind_some hF; obtain ⟨t11, c18, hF⟩ := hF
    have c18 := avInt_some c18
    subst c18
    refine WL.val (d := (some 11)) (v := .int .i64 t11) (h' := h_4) (by kernel_rfl) (by kernel_rfl) (Eq.trans (by kernel_rfl) (load_cell (P := Try.prog) (h := h_4) (t := 3) (by kernel_rfl) e17)) ?_
    replace hF := obind_some hF; obtain ⟨t12, e19, hF⟩ := hF
    refine WL.val (d := (some 12)) (v := t12) (h' := h_4) (by kernel_rfl) (by kernel_rfl) (Eq.trans (by kernel_rfl) (field_ptr (P := Try.prog) (h := h_4) (s := 36) (f := 0) (by kernel_rfl) e19)) ?_
    replace hF := obind_some hF; obtain ⟨v13, e20, hF⟩ := hF
    replace hF := obind_some hF; obtain ⟨t13, c21, hF⟩ := hF
    have c21 := avInt_some c21
    subst c21
    refine WL.val (d := (some 13)) (v := .int .i64 t13) (h' := h_4) (by kernel_rfl) (by kernel_rfl) (Eq.trans (by kernel_rfl) (load_cell (P := Try.prog) (h := h_4) (t := 3) (by kernel_rfl) e20)) ?_
    replace hF := lett_some hF; obtain ⟨t14, e22, hF⟩ := hF
    refine WL.val (d := (some 14)) (v := .bool t14) (h' := h_4) (by kernel_rfl) (by kernel_rfl) (val_of AV.bool e22 (by kernel_rfl)) ?_
    refine WL.val (d := (some 4)) (v := .bool t14) (h' := h_4) (by kernel_rfl) (by kernel_rfl) (by kernel_rfl) ?_
    refine WL.nil (by kernel_rfl) ?_
    refine Go.weaken (l' := [(4, .bool t14)]) (Fr.sub_cons (by kernel_rfl) (Fr.sub_nil _)) ?_
    refine n15 ?_
    refine W.ret (by kernel_rfl) ?_
    refine r6 ?_
    obtain ⟨hF, hF2⟩ := ret_inj hF; subst hF; subst hF2
    exact leave_of (rs := [.tmp 4]) (vs := [.bool t14]) (by kernel_rfl) (res_tmp (by kernel_rfl) res_nil) (by kernel_rfl)
  | false =>
    replace hF := ifB_f hF
    refine W.cond_false (by kernel_rfl) (by kernel_rfl) ?_
    refine W.skip (by kernel_rfl) ?_
    refine n6 ?_
    refine W.seqK (by kernel_rfl) (fun K23 n23 e23 r23 p23 => ?_)
    refine W.region (by kernel_rfl) ?_
    replace hF := obind_some hF; obtain ⟨t15, e24, hF⟩ := hF
    refine WL.val (d := (some 15)) (v := t15) (h' := h_4) (by kernel_rfl) (by kernel_rfl) (Eq.trans (by kernel_rfl) (field_ptr (P := Try.prog) (h := h_4) (s := 36) (f := 1) (by kernel_rfl) e24)) ?_
    replace hF := obind_some hF; obtain ⟨v16, e25, hF⟩ := hF
    replace hF := obind_some hF; obtain ⟨t16, c26, hF⟩ := hF
    have c26 := avInt_some c26
    subst c26
    refine WL.val (d := (some 16)) (v := .int .i64 t16) (h' := h_4) (by kernel_rfl) (by kernel_rfl) (Eq.trans (by kernel_rfl) (load_cell (P := Try.prog) (h := h_4) (t := 3) (by kernel_rfl) e25)) ?_
    replace hF := obind_some hF; obtain ⟨t17, e27, hF⟩ := hF
    refine WL.val (d := (some 17)) (v := t17) (h' := h_4) (by kernel_rfl) (by kernel_rfl) (Eq.trans (by kernel_rfl) (field_ptr (P := Try.prog) (h := h_4) (s := 36) (f := 1) (by kernel_rfl) e27)) ?_
    replace hF := obind_some hF; obtain ⟨v18, e28, hF⟩ := hF
    replace hF := obind_some hF; obtain ⟨t18, c29, hF⟩ := hF
    have c29 := avInt_some c29
    subst c29
    refine WL.val (d := (some 18)) (v := .int .i64 t18) (h' := h_4) (by kernel_rfl) (by kernel_rfl) (Eq.trans (by kernel_rfl) (load_cell (P := Try.prog) (h := h_4) (t := 3) (by kernel_rfl) e28)) ?_
    replace hF := lett_some hF; obtain ⟨t19, e30, hF⟩ := hF
    refine WL.val (d := (some 19)) (v := .bool t19) (h' := h_4) (by kernel_rfl) (by kernel_rfl) (val_of AV.bool e30 (by kernel_rfl)) ?_
    refine WL.val (d := (some 4)) (v := .bool t19) (h' := h_4) (by kernel_rfl) (by kernel_rfl) (by kernel_rfl) ?_
    refine WL.nil (by kernel_rfl) ?_
    refine Go.weaken (l' := [(4, .bool t19)]) (Fr.sub_cons (by kernel_rfl) (Fr.sub_nil _)) ?_
    refine n23 ?_
    refine W.ret (by kernel_rfl) ?_
    obtain ⟨hF, hF2⟩ := ret_inj hF; subst hF; subst hF2
    exact leave_of (rs := [.tmp 4]) (vs := [.bool t19]) (by kernel_rfl) (res_tmp (by kernel_rfl) res_nil) (by kernel_rfl)
noncomputable def message_Above_fn (call : CallF) (n : Nat) : FnT := fun args h => match args with
  | [x0, x1] => obind (avAgg x0) fun t0 => obind (avAgg x1) fun t1 => message_Above call n t0 t1 h
  | _ => none
set_option maxRecDepth 100000 in
theorem message_Above_fn_eq (call : CallF) (n : Nat) (t0 : List AV) (t1 : List AV) (h : AHeap) : message_Above_fn call n [.agg t0, .agg t1] h = message_Above call n t0 t1 h :=
  (Eq.trans (obind_eq (fun t0 => obind (avAgg (.agg t1)) fun t1 => message_Above call n t0 t1 h) (avAgg_agg t0)) (Eq.trans (obind_eq (fun t1 => message_Above call n t0 t1 h) (avAgg_agg t1)) rfl))
theorem message_Above_holds {call : CallF} (hc : SaysAll Try.prog call) (n : Nat) : Holds Try.prog 20 (message_Above_fn call n) := by
  intro args h r h2 e
  unfold message_Above_fn at e
  split at e
  · replace e := obind_some e; obtain ⟨t0, c0, e⟩ := e; have c0 := avAgg_some c0; subst c0
    replace e := obind_some e; obtain ⟨t1, c1, e⟩ := e; have c1 := avAgg_some c1; subst c1
    exact message_Above_ok hc e
  · cases e

end Go.Proofs.Ytjhnmfhpjlolhaa
