/- Plain functions in place of the program's, and that their calls come to what they say. -/
import Derived.Test.YteecmjmglmpbpaaFrame
import Derived.Test.YteecmjmglmpbpaaAbs33
namespace Go.Proofs.Yteecmjmglmpbpaa
open Go.RowKit Abs

noncomputable def vote_Check (_ : CallF) (_ : Nat) (t0 : List AV) (h : AHeap) : R :=
  outK (opBox h 31 (some (.agg t0))) fun v1 h_2 =>
  obind (fldP 0 v1) fun t3 =>
  obind (ldCell h_2 t3) fun v4 =>
  obind (avInt .i64 v4) fun t4 =>
  lett (decide (t4 < 0)) fun (t5 : Bool) =>
  lett (fun (t10 : Bool) (h_10 : AHeap) =>
    lett (fun (t15 : Bool) (h_13 : AHeap) =>
      lett (fun (t20 : Bool) (h_16 : AHeap) =>
        ifB t20
        (
          some (.ret (.int .i64 2), h_16))
        (
          some (.ret (.int .i64 0), h_16))) fun j20 =>
      ifB t15
      (
        j20 true h_13)
      (
        obind (fldP 1 v1) fun t17 =>
        obind (ldCell h_13 t17) fun v18 =>
        obind (avInt .i64 v18) fun t18 =>
        lett (decide (t18 ≥ 3)) fun (t19 : Bool) =>
        j20 t19 h_13)) fun j15 =>
    ifB t10
    (
      j15 true h_10)
    (
      obind (fldP 1 v1) fun t12 =>
      obind (ldCell h_10 t12) fun v13 =>
      obind (avInt .i64 v13) fun t13 =>
      lett (decide (t13 < (-1))) fun (t14 : Bool) =>
      j15 t14 h_10)) fun j10 =>
  ifB t5
  (
    j10 true h_2)
  (
    obind (fldP 0 v1) fun t7 =>
    obind (ldCell h_2 t7) fun v8 =>
    obind (avInt .i64 v8) fun t8 =>
    lett (decide (t8 > 1099511627776)) fun (t9 : Bool) =>
    j10 t9 h_2)
set_option maxHeartbeats 4000000 in
set_option maxRecDepth 20000 in
theorem vote_Check_ok {call : CallF} (_ : SaysAll Try.prog call) {n : Nat} {t0 : List AV} {h : AHeap} {rR : ARes} {hR : AHeap} (hF : vote_Check call n t0 h = some (rR, hR)) : Says Try.prog 17 [.agg t0] h rR hR := by
  unfold vote_Check at hF
  refine says_of (fn := Try.f17) Try.func17 (c := codeOf Try.f17) (by kernel_rfl) (by kernel_rfl) (fun w0 m0 => ?_)
  refine W.weaken (l' := [(0, .agg t0)]) (Fr.sub_cons (by kernel_rfl) (Fr.sub_nil _)) ?_
  refine W.seqK (by kernel_rfl) (fun K1 n1 e1 r1 p1 => ?_)
  refine W.region (by kernel_rfl) ?_
  replace hF := outK_some hF; obtain ⟨v1, h_2, e3, hF⟩ := hF
  refine WL.val (d := (some 1)) (v := v1) (h' := h_2) (by kernel_rfl) (by kernel_rfl) (Eq.trans (by kernel_rfl) e3) ?_
  refine WL.val (d := (some 2)) (v := .int .i64 0) (h' := h_2) (by kernel_rfl) (by kernel_rfl) (by kernel_rfl) ?_
  refine WL.nil (by kernel_rfl) ?_
  refine Go.weaken (l' := [(1, v1)]) (Fr.sub_cons (by kernel_rfl) (Fr.sub_nil _)) ?_
  refine n1 ?_
  refine W.seqK (by kernel_rfl) (fun K4 n4 e4 r4 p4 => ?_)
  refine W.seqK (by kernel_rfl) (fun K5 n5 e5 r5 p5 => ?_)
  refine W.region (by kernel_rfl) ?_
  replace hF := obind_some hF; obtain ⟨t3, e6, hF⟩ := hF
  refine WL.val (d := (some 3)) (v := t3) (h' := h_2) (by kernel_rfl) (by kernel_rfl) (Eq.trans (by kernel_rfl) (field_ptr (P := Try.prog) (h := h_2) (s := 31) (f := 0) (by kernel_rfl) e6)) ?_
  replace hF := obind_some hF; obtain ⟨v4, e7, hF⟩ := hF
  replace hF := obind_some hF; obtain ⟨t4, c8, hF⟩ := hF
  have c8 := avInt_some c8
  subst c8
  refine WL.val (d := (some 4)) (v := .int .i64 t4) (h' := h_2) (by kernel_rfl) (by kernel_rfl) (Eq.trans (by kernel_rfl) (load_cell (P := Try.prog) (h := h_2) (t := 3) (by kernel_rfl) e7)) ?_
  replace hF := lett_some hF; obtain ⟨t5, e9, hF⟩ := hF
  refine WL.val (d := (some 5)) (v := .bool t5) (h' := h_2) (by kernel_rfl) (by kernel_rfl) (val_of AV.bool e9 (by kernel_rfl)) ?_
  refine WL.val (d := (some 6)) (v := .bool t5) (h' := h_2) (by kernel_rfl) (by kernel_rfl) (by kernel_rfl) ?_
  replace hF := lett_some hF; obtain ⟨j10, e11, hF⟩ := hF
  have J12 : ∀ (t10 : Bool) (h_10 : AHeap), j10 t10 h_10 = some (rR, hR) → WL Try.prog w0 m0 (Func.ntmps Try.f17) (Code.ops (Code.p1 (Code.p1 (Code.p2 (codeOf Try.f17))))) 8 K5 [(1, v1), (10, .bool t10)] [] h_10 := by
    intro t10 h_10 hF
    rw [e11] at hF
    refine WL.val (d := (some 11)) (v := .bool t10) (h' := h_10) (by kernel_rfl) (by kernel_rfl) (by kernel_rfl) ?_
    replace hF := lett_some hF; obtain ⟨j15, e14, hF⟩ := hF
    have J15 : ∀ (t15 : Bool) (h_13 : AHeap), j15 t15 h_13 = some (rR, hR) → WL Try.prog w0 m0 (Func.ntmps Try.f17) (Code.ops (Code.p1 (Code.p1 (Code.p2 (codeOf Try.f17))))) 13 K5 [(1, v1), (15, .bool t15)] [] h_13 := by
      intro t15 h_13 hF
      rw [e14] at hF
      refine WL.val (d := (some 16)) (v := .bool t15) (h' := h_13) (by kernel_rfl) (by kernel_rfl) (by kernel_rfl) ?_
      replace hF := lett_some hF; obtain ⟨j20, e17, hF⟩ := hF
      have J18 : ∀ (t20 : Bool) (h_16 : AHeap), j20 t20 h_16 = some (rR, hR) → WL Try.prog w0 m0 (Func.ntmps Try.f17) (Code.ops (Code.p1 (Code.p1 (Code.p2 (codeOf Try.f17))))) 18 K5 [(20, .bool t20)] [] h_16 := by
        intro t20 h_16 hF
        rw [e17] at hF
        refine WL.nil (by kernel_rfl) ?_
        refine Go.weaken (l' := [(20, .bool t20)]) (Fr.sub_cons (by kernel_rfl) (Fr.sub_nil _)) ?_
        refine n5 ?_
        cases t20 with
        | true =>
          replace hF := ifB_t hF
          refine W.cond_true (by kernel_rfl) (by kernel_rfl) ?_
          refine W.seqK (by kernel_rfl) (fun K19 n19 e19 r19 p19 => ?_)
          refine W.region (by kernel_rfl) ?_
          refine WL.val (d := (some 2)) (v := .int .i64 2) (h' := h_16) (by kernel_rfl) (by kernel_rfl) (by kernel_rfl) ?_
          refine WL.nil (by kernel_rfl) ?_
          refine Go.weaken (l' := [(2, .int .i64 2)]) (Fr.sub_cons (by kernel_rfl) (Fr.sub_nil _)) ?_
          refine n19 ?_
          refine W.ret (by kernel_rfl) ?_
          refine r4 ?_
          obtain ⟨hF, hF2⟩ := ret_inj hF; subst hF; subst hF2
          exact leave_of (rs := [.tmp 2]) (vs := [.int .i64 2]) (by kernel_rfl) (res_tmp (by kernel_rfl) res_nil) (by kernel_rfl)
        | false =>
          replace hF := ifB_f hF
          refine W.cond_false (by kernel_rfl) (by kernel_rfl) ?_
          refine W.skip (by kernel_rfl) ?_
          refine n4 ?_
          refine W.seqK (by kernel_rfl) (fun K20 n20 e20 r20 p20 => ?_)
          refine W.region (by kernel_rfl) ?_
          refine WL.val (d := (some 2)) (v := .int .i64 0) (h' := h_16) (by kernel_rfl) (by kernel_rfl) (by kernel_rfl) ?_
          refine WL.nil (by kernel_rfl) ?_
          refine Go.weaken (l' := [(2, .int .i64 0)]) (Fr.sub_cons (by kernel_rfl) (Fr.sub_nil _)) ?_
          refine n20 ?_
          refine W.ret (by kernel_rfl) ?_
          obtain ⟨hF, hF2⟩ := ret_inj hF; subst hF; subst hF2
          exact leave_of (rs := [.tmp 2]) (vs := [.int .i64 0]) (by kernel_rfl) (res_tmp (by kernel_rfl) res_nil) (by kernel_rfl)
      cases t15 with
      | true =>
        replace hF := ifB_t hF
        refine WL.not (d := (some 17)) (by kernel_rfl) (by kernel_rfl) ?_
        refine WL.not (d := (some 18)) (by kernel_rfl) (by kernel_rfl) ?_
        refine WL.not (d := (some 19)) (by kernel_rfl) (by kernel_rfl) ?_
        refine WL.val (d := (some 20)) (v := .bool true) (h' := h_13) (by kernel_rfl) (by kernel_rfl) (by kernel_rfl) ?_
        exact WL.weaken (Fr.sub_cons (by kernel_rfl) (Fr.sub_nil _)) (J18 _ _ hF)
      | false =>
        replace hF := ifB_f hF
        replace hF := obind_some hF; obtain ⟨t17, e21, hF⟩ := hF
        refine WL.val (d := (some 17)) (v := t17) (h' := h_13) (by kernel_rfl) (by kernel_rfl) (Eq.trans (by kernel_rfl) (field_ptr (P := Try.prog) (h := h_13) (s := 31) (f := 1) (by kernel_rfl) e21)) ?_
        replace hF := obind_some hF; obtain ⟨v18, e22, hF⟩ := hF
        replace hF := obind_some hF; obtain ⟨t18, c23, hF⟩ := hF
        have c23 := avInt_some c23
        subst c23
        refine WL.val (d := (some 18)) (v := .int .i64 t18) (h' := h_13) (by kernel_rfl) (by kernel_rfl) (Eq.trans (by kernel_rfl) (load_cell (P := Try.prog) (h := h_13) (t := 3) (by kernel_rfl) e22)) ?_
        replace hF := lett_some hF; obtain ⟨t19, e24, hF⟩ := hF
        refine WL.val (d := (some 19)) (v := .bool t19) (h' := h_13) (by kernel_rfl) (by kernel_rfl) (val_of AV.bool e24 (by kernel_rfl)) ?_
        refine WL.val (d := (some 20)) (v := .bool t19) (h' := h_13) (by kernel_rfl) (by kernel_rfl) (by kernel_rfl) ?_
        exact WL.weaken (Fr.sub_cons (by kernel_rfl) (Fr.sub_nil _)) (J18 _ _ hF)
    cases t10 with
    | true =>
      replace hF := ifB_t hF
      refine WL.not (d := (some 12)) (by kernel_rfl) (by kernel_rfl) ?_
      refine WL.not (d := (some 13)) (by kernel_rfl) (by kernel_rfl) ?_
      refine WL.not (d := (some 14)) (by kernel_rfl) (by kernel_rfl) ?_
      refine WL.val (d := (some 15)) (v := .bool true) (h' := h_10) (by kernel_rfl) (by kernel_rfl) (by kernel_rfl) ?_
      exact WL.weaken (Fr.sub_cons (by kernel_rfl) (Fr.sub_cons (by kernel_rfl) (Fr.sub_nil _))) (J15 _ _ hF)
    | false =>
      replace hF := ifB_f hF
      replace hF := obind_some hF; obtain ⟨t12, e25, hF⟩ := hF
      refine WL.val (d := (some 12)) (v := t12) (h' := h_10) (by kernel_rfl) (by kernel_rfl) (Eq.trans (by kernel_rfl) (field_ptr (P := Try.prog) (h := h_10) (s := 31) (f := 1) (by kernel_rfl) e25)) ?_
      replace hF := obind_some hF; obtain ⟨v13, e26, hF⟩ := hF
      replace hF := obind_some hF; obtain ⟨t13, c27, hF⟩ := hF
      have c27 := avInt_some c27
      subst c27
      refine WL.val (d := (some 13)) (v := .int .i64 t13) (h' := h_10) (by kernel_rfl) (by kernel_rfl) (Eq.trans (by kernel_rfl) (load_cell (P := Try.prog) (h := h_10) (t := 3) (by kernel_rfl) e26)) ?_
      replace hF := lett_some hF; obtain ⟨t14, e28, hF⟩ := hF
      refine WL.val (d := (some 14)) (v := .bool t14) (h' := h_10) (by kernel_rfl) (by kernel_rfl) (val_of AV.bool e28 (by kernel_rfl)) ?_
      refine WL.val (d := (some 15)) (v := .bool t14) (h' := h_10) (by kernel_rfl) (by kernel_rfl) (by kernel_rfl) ?_
      exact WL.weaken (Fr.sub_cons (by kernel_rfl) (Fr.sub_cons (by kernel_rfl) (Fr.sub_nil _))) (J15 _ _ hF)
  cases t5 with
  | true =>
    replace hF := ifB_t hF
    refine WL.not (d := (some 7)) (by kernel_rfl) (by kernel_rfl) ?_
    refine WL.not (d := (some 8)) (by kernel_rfl) (by kernel_rfl) ?_
    refine WL.not (d := (some 9)) (by kernel_rfl) (by kernel_rfl) ?_
    refine WL.val (d := (some 10)) (v := .bool true) (h' := h_2) (by kernel_rfl) (by kernel_rfl) (by kernel_rfl) ?_
    exact WL.weaken (Fr.sub_cons (by kernel_rfl) (Fr.sub_cons (by kernel_rfl) (Fr.sub_nil _))) (J12 _ _ hF)
  | false =>
    replace hF := ifB_f hF
    replace hF := obind_some hF; obtain ⟨t7, e29, hF⟩ := hF
    refine WL.val (d := (some 7)) (v := t7) (h' := h_2) (by kernel_rfl) (by kernel_rfl) (Eq.trans (by kernel_rfl) (field_ptr (P := Try.prog) (h := h_2) (s := 31) (f := 0) (by kernel_rfl) e29)) ?_
    replace hF := obind_some hF; obtain ⟨v8, e30, hF⟩ := hF
    replace hF := obind_some hF; obtain ⟨t8, c31, hF⟩ := hF
    have c31 := avInt_some c31
    subst c31
    refine WL.val (d := (some 8)) (v := .int .i64 t8) (h' := h_2) (by kernel_rfl) (by kernel_rfl) (Eq.trans (by kernel_rfl) (load_cell (P := Try.prog) (h := h_2) (t := 3) (by kernel_rfl) e30)) ?_
    replace hF := lett_some hF; obtain ⟨t9, e32, hF⟩ := hF
    refine WL.val (d := (some 9)) (v := .bool t9) (h' := h_2) (by kernel_rfl) (by kernel_rfl) (val_of AV.bool e32 (by kernel_rfl)) ?_
    refine WL.val (d := (some 10)) (v := .bool t9) (h' := h_2) (by kernel_rfl) (by kernel_rfl) (by kernel_rfl) ?_
    exact WL.weaken (Fr.sub_cons (by kernel_rfl) (Fr.sub_cons (by kernel_rfl) (Fr.sub_nil _))) (J12 _ _ hF)
noncomputable def vote_Check_fn (call : CallF) (n : Nat) : FnT := fun args h => match args with
  | [x0] => obind (avAgg x0) fun t0 => vote_Check call n t0 h
  | _ => none
set_option maxRecDepth 100000 in
theorem vote_Check_fn_eq (call : CallF) (n : Nat) (t0 : List AV) (h : AHeap) : vote_Check_fn call n [.agg t0] h = vote_Check call n t0 h :=
  (Eq.trans (obind_eq (fun t0 => vote_Check call n t0 h) (avAgg_agg t0)) rfl)
theorem vote_Check_holds {call : CallF} (hc : SaysAll Try.prog call) (n : Nat) : Holds Try.prog 17 (vote_Check_fn call n) := by
  intro args h r h2 e
  unfold vote_Check_fn at e
  split at e
  · replace e := obind_some e; obtain ⟨t0, c0, e⟩ := e; have c0 := avAgg_some c0; subst c0
    exact vote_Check_ok hc e
  · cases e

noncomputable def ref08_May (_ : CallF) (_ : Nat) (t0 : List AV) (h : AHeap) : R :=
  outK (opBox h 39 (some (.agg t0))) fun v1 h_2 =>
  obind (fldP 0 v1) fun t3 =>
  obind (ldCell h_2 t3) fun v4 =>
  obind (avInt .i64 v4) fun t4 =>
  lett (decide (t4 ≥ 0)) fun (t5 : Bool) =>
  lett (fun (t10 : Bool) (h_9 : AHeap) =>
    lett (fun (t15 : Bool) (h_12 : AHeap) =>
      lett (fun (t20 : Bool) (h_15 : AHeap) =>
        some (.ret (.bool t20), h_15)) fun j20 =>
      ifB t15
      (
        obind (fldP 1 v1) fun t17 =>
        obind (ldCell h_12 t17) fun v18 =>
        obind (avInt .i64 v18) fun t18 =>
        lett (decide (t18 ≤ 2)) fun (t19 : Bool) =>
        j20 t19 h_12)
      (
        j20 false h_12)) fun j15 =>
    ifB t10
    (
      obind (fldP 1 v1) fun t12 =>
      obind (ldCell h_9 t12) fun v13 =>
      obind (avInt .i64 v13) fun t13 =>
      lett (decide (t13 ≥ (-1))) fun (t14 : Bool) =>
      j15 t14 h_9)
    (
      j15 false h_9)) fun j10 =>
  ifB t5
  (
    obind (fldP 0 v1) fun t7 =>
    obind (ldCell h_2 t7) fun v8 =>
    obind (avInt .i64 v8) fun t8 =>
    lett (decide (t8 ≤ 1099511627776)) fun (t9 : Bool) =>
    j10 t9 h_2)
  (
    j10 false h_2)
set_option maxHeartbeats 4000000 in
set_option maxRecDepth 20000 in
theorem ref08_May_ok {call : CallF} (_ : SaysAll Try.prog call) {n : Nat} {t0 : List AV} {h : AHeap} {rR : ARes} {hR : AHeap} (hF : ref08_May call n t0 h = some (rR, hR)) : Says Try.prog 18 [.agg t0] h rR hR := by
  unfold ref08_May at hF
  refine says_of (fn := Try.f18) Try.func18 (c := codeOf Try.f18) (by kernel_rfl) (by kernel_rfl) (fun w0 m0 => ?_)
  refine W.weaken (l' := [(0, .agg t0)]) (Fr.sub_cons (by kernel_rfl) (Fr.sub_nil _)) ?_
  refine W.seqK (by kernel_rfl) (fun K1 n1 e1 r1 p1 => ?_)
  refine W.region (by kernel_rfl) ?_
  replace hF := outK_some hF; obtain ⟨v1, h_2, e3, hF⟩ := hF
  refine WL.val (d := (some 1)) (v := v1) (h' := h_2) (by kernel_rfl) (by kernel_rfl) (Eq.trans (by kernel_rfl) e3) ?_
  refine WL.val (d := (some 2)) (v := .bool false) (h' := h_2) (by kernel_rfl) (by kernel_rfl) (by kernel_rfl) ?_
  refine WL.nil (by kernel_rfl) ?_
  refine Go.weaken (l' := [(1, v1)]) (Fr.sub_cons (by kernel_rfl) (Fr.sub_nil _)) ?_
  refine n1 ?_
  refine W.seqK (by kernel_rfl) (fun K4 n4 e4 r4 p4 => ?_)
  refine W.region (by kernel_rfl) ?_
  replace hF := obind_some hF; obtain ⟨t3, e5, hF⟩ := hF
  refine WL.val (d := (some 3)) (v := t3) (h' := h_2) (by kernel_rfl) (by kernel_rfl) (Eq.trans (by kernel_rfl) (field_ptr (P := Try.prog) (h := h_2) (s := 39) (f := 0) (by kernel_rfl) e5)) ?_
  replace hF := obind_some hF; obtain ⟨v4, e6, hF⟩ := hF
  replace hF := obind_some hF; obtain ⟨t4, c7, hF⟩ := hF
  have c7 := avInt_some c7
  subst c7
  refine WL.val (d := (some 4)) (v := .int .i64 t4) (h' := h_2) (by kernel_rfl) (by kernel_rfl) (Eq.trans (by kernel_rfl) (load_cell (P := Try.prog) (h := h_2) (t := 3) (by kernel_rfl) e6)) ?_
  replace hF := lett_some hF; obtain ⟨t5, e8, hF⟩ := hF
  refine WL.val (d := (some 5)) (v := .bool t5) (h' := h_2) (by kernel_rfl) (by kernel_rfl) (val_of AV.bool e8 (by kernel_rfl)) ?_
  refine WL.val (d := (some 6)) (v := .bool t5) (h' := h_2) (by kernel_rfl) (by kernel_rfl) (by kernel_rfl) ?_
  replace hF := lett_some hF; obtain ⟨j10, e10, hF⟩ := hF
  have J11 : ∀ (t10 : Bool) (h_9 : AHeap), j10 t10 h_9 = some (rR, hR) → WL Try.prog w0 m0 (Func.ntmps Try.f18) (Code.ops (Code.p1 (Code.p2 (codeOf Try.f18)))) 8 K4 [(1, v1), (10, .bool t10)] [] h_9 := by
    intro t10 h_9 hF
    rw [e10] at hF
    refine WL.val (d := (some 11)) (v := .bool t10) (h' := h_9) (by kernel_rfl) (by kernel_rfl) (by kernel_rfl) ?_
    replace hF := lett_some hF; obtain ⟨j15, e13, hF⟩ := hF
    have J14 : ∀ (t15 : Bool) (h_12 : AHeap), j15 t15 h_12 = some (rR, hR) → WL Try.prog w0 m0 (Func.ntmps Try.f18) (Code.ops (Code.p1 (Code.p2 (codeOf Try.f18)))) 13 K4 [(1, v1), (15, .bool t15)] [] h_12 := by
      intro t15 h_12 hF
      rw [e13] at hF
      refine WL.val (d := (some 16)) (v := .bool t15) (h' := h_12) (by kernel_rfl) (by kernel_rfl) (by kernel_rfl) ?_
      replace hF := lett_some hF; obtain ⟨j20, e16, hF⟩ := hF
      have J17 : ∀ (t20 : Bool) (h_15 : AHeap), j20 t20 h_15 = some (rR, hR) → WL Try.prog w0 m0 (Func.ntmps Try.f18) (Code.ops (Code.p1 (Code.p2 (codeOf Try.f18)))) 18 K4 [(20, .bool t20)] [] h_15 := by
        intro t20 h_15 hF
        rw [e16] at hF
        refine WL.val (d := (some 2)) (v := .bool t20) (h' := h_15) (by kernel_rfl) (by kernel_rfl) (by kernel_rfl) ?_
        refine WL.nil (by kernel_rfl) ?_
        refine Go.weaken (l' := [(2, .bool t20)]) (Fr.sub_cons (by kernel_rfl) (Fr.sub_nil _)) ?_
        refine n4 ?_
        refine W.ret (by kernel_rfl) ?_
        obtain ⟨hF, hF2⟩ := ret_inj hF; subst hF; subst hF2
        exact leave_of (rs := [.tmp 2]) (vs := [.bool t20]) (by kernel_rfl) (res_tmp (by kernel_rfl) res_nil) (by kernel_rfl)
      cases t15 with
      | true =>
        replace hF := ifB_t hF
        replace hF := obind_some hF; obtain ⟨t17, e18, hF⟩ := hF
        refine WL.val (d := (some 17)) (v := t17) (h' := h_12) (by kernel_rfl) (by kernel_rfl) (Eq.trans (by kernel_rfl) (field_ptr (P := Try.prog) (h := h_12) (s := 39) (f := 1) (by kernel_rfl) e18)) ?_
        replace hF := obind_some hF; obtain ⟨v18, e19, hF⟩ := hF
        replace hF := obind_some hF; obtain ⟨t18, c20, hF⟩ := hF
        have c20 := avInt_some c20
        subst c20
        refine WL.val (d := (some 18)) (v := .int .i64 t18) (h' := h_12) (by kernel_rfl) (by kernel_rfl) (Eq.trans (by kernel_rfl) (load_cell (P := Try.prog) (h := h_12) (t := 3) (by kernel_rfl) e19)) ?_
        replace hF := lett_some hF; obtain ⟨t19, e21, hF⟩ := hF
        refine WL.val (d := (some 19)) (v := .bool t19) (h' := h_12) (by kernel_rfl) (by kernel_rfl) (val_of AV.bool e21 (by kernel_rfl)) ?_
        refine WL.val (d := (some 20)) (v := .bool t19) (h' := h_12) (by kernel_rfl) (by kernel_rfl) (by kernel_rfl) ?_
        exact WL.weaken (Fr.sub_cons (by kernel_rfl) (Fr.sub_nil _)) (J17 _ _ hF)
      | false =>
        replace hF := ifB_f hF
        refine WL.not (d := (some 17)) (by kernel_rfl) (by kernel_rfl) ?_
        refine WL.not (d := (some 18)) (by kernel_rfl) (by kernel_rfl) ?_
        refine WL.not (d := (some 19)) (by kernel_rfl) (by kernel_rfl) ?_
        refine WL.val (d := (some 20)) (v := .bool false) (h' := h_12) (by kernel_rfl) (by kernel_rfl) (by kernel_rfl) ?_
        exact WL.weaken (Fr.sub_cons (by kernel_rfl) (Fr.sub_nil _)) (J17 _ _ hF)
    cases t10 with
    | true =>
      replace hF := ifB_t hF
      replace hF := obind_some hF; obtain ⟨t12, e22, hF⟩ := hF
      refine WL.val (d := (some 12)) (v := t12) (h' := h_9) (by kernel_rfl) (by kernel_rfl) (Eq.trans (by kernel_rfl) (field_ptr (P := Try.prog) (h := h_9) (s := 39) (f := 1) (by kernel_rfl) e22)) ?_
      replace hF := obind_some hF; obtain ⟨v13, e23, hF⟩ := hF
      replace hF := obind_some hF; obtain ⟨t13, c24, hF⟩ := hF
      have c24 := avInt_some c24
      subst c24
      refine WL.val (d := (some 13)) (v := .int .i64 t13) (h' := h_9) (by kernel_rfl) (by kernel_rfl) (Eq.trans (by kernel_rfl) (load_cell (P := Try.prog) (h := h_9) (t := 3) (by kernel_rfl) e23)) ?_
      replace hF := lett_some hF; obtain ⟨t14, e25, hF⟩ := hF
      refine WL.val (d := (some 14)) (v := .bool t14) (h' := h_9) (by kernel_rfl) (by kernel_rfl) (val_of AV.bool e25 (by kernel_rfl)) ?_
      refine WL.val (d := (some 15)) (v := .bool t14) (h' := h_9) (by kernel_rfl) (by kernel_rfl) (by kernel_rfl) ?_
      exact WL.weaken (Fr.sub_cons (by kernel_rfl) (Fr.sub_cons (by kernel_rfl) (Fr.sub_nil _))) (J14 _ _ hF)
    | false =>
      replace hF := ifB_f hF
      refine WL.not (d := (some 12)) (by kernel_rfl) (by kernel_rfl) ?_
      refine WL.not (d := (some 13)) (by kernel_rfl) (by kernel_rfl) ?_
      refine WL.not (d := (some 14)) (by kernel_rfl) (by kernel_rfl) ?_
      refine WL.val (d := (some 15)) (v := .bool false) (h' := h_9) (by kernel_rfl) (by kernel_rfl) (by kernel_rfl) ?_
      exact WL.weaken (Fr.sub_cons (by kernel_rfl) (Fr.sub_cons (by kernel_rfl) (Fr.sub_nil _))) (J14 _ _ hF)
  cases t5 with
  | true =>
    replace hF := ifB_t hF
    replace hF := obind_some hF; obtain ⟨t7, e26, hF⟩ := hF
    refine WL.val (d := (some 7)) (v := t7) (h' := h_2) (by kernel_rfl) (by kernel_rfl) (Eq.trans (by kernel_rfl) (field_ptr (P := Try.prog) (h := h_2) (s := 39) (f := 0) (by kernel_rfl) e26)) ?_
    replace hF := obind_some hF; obtain ⟨v8, e27, hF⟩ := hF
    replace hF := obind_some hF; obtain ⟨t8, c28, hF⟩ := hF
    have c28 := avInt_some c28
    subst c28
    refine WL.val (d := (some 8)) (v := .int .i64 t8) (h' := h_2) (by kernel_rfl) (by kernel_rfl) (Eq.trans (by kernel_rfl) (load_cell (P := Try.prog) (h := h_2) (t := 3) (by kernel_rfl) e27)) ?_
    replace hF := lett_some hF; obtain ⟨t9, e29, hF⟩ := hF
    refine WL.val (d := (some 9)) (v := .bool t9) (h' := h_2) (by kernel_rfl) (by kernel_rfl) (val_of AV.bool e29 (by kernel_rfl)) ?_
    refine WL.val (d := (some 10)) (v := .bool t9) (h' := h_2) (by kernel_rfl) (by kernel_rfl) (by kernel_rfl) ?_
    exact WL.weaken (Fr.sub_cons (by kernel_rfl) (Fr.sub_cons (by kernel_rfl) (Fr.sub_nil _))) (J11 _ _ hF)
  | false =>
    replace hF := ifB_f hF
    refine WL.not (d := (some 7)) (by kernel_rfl) (by kernel_rfl) ?_
    refine WL.not (d := (some 8)) (by kernel_rfl) (by kernel_rfl) ?_
    refine WL.not (d := (some 9)) (by kernel_rfl) (by kernel_rfl) ?_
    refine WL.val (d := (some 10)) (v := .bool false) (h' := h_2) (by kernel_rfl) (by kernel_rfl) (by kernel_rfl) ?_
    exact WL.weaken (Fr.sub_cons (by kernel_rfl) (Fr.sub_cons (by kernel_rfl) (Fr.sub_nil _))) (J11 _ _ hF)
noncomputable def ref08_May_fn (call : CallF) (n : Nat) : FnT := fun args h => match args with
  | [x0] => obind (avAgg x0) fun t0 => ref08_May call n t0 h
  | _ => none
set_option maxRecDepth 100000 in
theorem ref08_May_fn_eq (call : CallF) (n : Nat) (t0 : List AV) (h : AHeap) : ref08_May_fn call n [.agg t0] h = ref08_May call n t0 h :=
  (Eq.trans (obind_eq (fun t0 => ref08_May call n t0 h) (avAgg_agg t0)) rfl)
theorem ref08_May_holds {call : CallF} (hc : SaysAll Try.prog call) (n : Nat) : Holds Try.prog 18 (ref08_May_fn call n) := by
  intro args h r h2 e
  unfold ref08_May_fn at e
  split at e
  · replace e := obind_some e; obtain ⟨t0, c0, e⟩ := e; have c0 := avAgg_some c0; subst c0
    exact ref08_May_ok hc e
  · cases e

noncomputable def law08_VoteChecks (call : CallF) (_ : Nat) (t0 : Int) (t1 : Int) (h : AHeap) : R :=
  callN (call 8 [] h) fun r6 h_4 =>
  obind (avBool r6) fun t6 =>
  lett (!t6) fun (t7 : Bool) =>
  ifB t7
  (
    some (.ret (.bool false), h_4))
  (
    callN (call 18 [.agg ([.int .i64 t0, .int .i64 t1] : List AV)] h_4) fun r11 h_12 =>
    obind (avBool r11) fun t11 =>
    lett (fun (t5 : Int) (h_16 : AHeap) =>
      callN (call 17 [.agg ([.int .i64 t0, .int .i64 t1] : List AV)] h_16) fun r15 h_18 =>
      obind (avInt .i64 r15) fun t15 =>
      lett ((t15 : Int) == t5) fun (t17 : Bool) =>
      some (.ret (.bool t17), h_18)) fun k15 =>
    ifB t11
    (
      k15 0 h_12)
    (
      k15 2 h_12))
set_option maxHeartbeats 4000000 in
set_option maxRecDepth 20000 in
theorem law08_VoteChecks_ok {call : CallF} (hc : SaysAll Try.prog call) {n : Nat} {t0 : Int} {t1 : Int} {h : AHeap} {rR : ARes} {hR : AHeap} (hF : law08_VoteChecks call n t0 t1 h = some (rR, hR)) : Says Try.prog 4 [.int .i64 t0, .int .i64 t1] h rR hR := by
  unfold law08_VoteChecks at hF
  refine says_of (fn := Try.f4) Try.func4 (c := codeOf Try.f4) (by kernel_rfl) (by kernel_rfl) (fun w0 m0 => ?_)
  refine W.weaken (l' := [(0, .int .i64 t0), (1, .int .i64 t1)]) (Fr.sub_cons (by kernel_rfl) (Fr.sub_cons (by kernel_rfl) (Fr.sub_nil _))) ?_
  refine W.seqK (by kernel_rfl) (fun K1 n1 e1 r1 p1 => ?_)
  refine W.region (by kernel_rfl) ?_
  refine WL.val (d := (some 4)) (v := .bool false) (h' := h) (by kernel_rfl) (by kernel_rfl) (by kernel_rfl) ?_
  refine WL.nil (by kernel_rfl) ?_
  refine Go.weaken (l' := [(0, .int .i64 t0), (1, .int .i64 t1)]) (Fr.sub_cons (by kernel_rfl) (Fr.sub_cons (by kernel_rfl) (Fr.sub_nil _))) ?_
  refine n1 ?_
  refine W.seqK (by kernel_rfl) (fun K2 n2 e2 r2 p2 => ?_)
  refine W.seqK (by kernel_rfl) (fun K3 n3 e3 r3 p3 => ?_)
  refine W.region (by kernel_rfl) ?_
  replace hF := callN_some hF; obtain ⟨r6, h_4, e5, hF⟩ := hF
  replace hF := obind_some hF; obtain ⟨t6, c6, hF⟩ := hF
  have c6 := avBool_some c6
  subst c6
  refine WL.call (hc.ok w0) (d := (some 6)) (by kernel_rfl) (by kernel_rfl) (by kernel_rfl) e5 ?_
  replace hF := lett_some hF; obtain ⟨t7, e7, hF⟩ := hF
  refine WL.val (d := (some 7)) (v := .bool t7) (h' := h_4) (by kernel_rfl) (by kernel_rfl) (val_of AV.bool e7 (by kernel_rfl)) ?_
  refine WL.nil (by kernel_rfl) ?_
  refine Go.weaken (l' := [(0, .int .i64 t0), (1, .int .i64 t1), (7, .bool t7)]) (Fr.sub_cons (by kernel_rfl) (Fr.sub_cons (by kernel_rfl) (Fr.sub_cons (by kernel_rfl) (Fr.sub_nil _)))) ?_
  refine n3 ?_
  cases t7 with
  | true =>
    replace hF := ifB_t hF
    refine W.cond_true (by kernel_rfl) (by kernel_rfl) ?_
    refine W.seqK (by kernel_rfl) (fun K8 n8 e8 r8 p8 => ?_)
    refine W.region (by kernel_rfl) ?_
    refine WL.val (d := (some 4)) (v := .bool false) (h' := h_4) (by kernel_rfl) (by kernel_rfl) (by kernel_rfl) ?_
    refine WL.nil (by kernel_rfl) ?_
    refine Go.weaken (l' := [(4, .bool false)]) (Fr.sub_cons (by kernel_rfl) (Fr.sub_nil _)) ?_
    refine n8 ?_
    refine W.ret (by kernel_rfl) ?_
    refine r2 ?_
    obtain ⟨hF, hF2⟩ := ret_inj hF; subst hF; subst hF2
    exact leave_of (rs := [.tmp 4]) (vs := [.bool false]) (by kernel_rfl) (res_tmp (by kernel_rfl) res_nil) (by kernel_rfl)
  | false =>
    replace hF := ifB_f hF
    refine W.cond_false (by kernel_rfl) (by kernel_rfl) ?_
    refine W.skip (by kernel_rfl) ?_
    refine n2 ?_
    refine W.seqK (by kernel_rfl) (fun K9 n9 e9 r9 p9 => ?_)
    refine W.region (by kernel_rfl) ?_
    refine WL.val (d := (some 5)) (v := .int .i64 2) (h' := h_4) (by kernel_rfl) (by kernel_rfl) (by kernel_rfl) ?_
    refine WL.nil (by kernel_rfl) ?_
    refine Go.weaken (l' := [(0, .int .i64 t0), (1, .int .i64 t1), (5, .int .i64 2)]) (Fr.sub_cons (by kernel_rfl) (Fr.sub_cons (by kernel_rfl) (Fr.sub_cons (by kernel_rfl) (Fr.sub_nil _)))) ?_
    refine n9 ?_
    refine W.seqK (by kernel_rfl) (fun K10 n10 e10 r10 p10 => ?_)
    refine W.seqK (by kernel_rfl) (fun K11 n11 e11 r11 p11 => ?_)
    refine W.region (by kernel_rfl) ?_
    refine WL.val (d := (some 8)) (v := .int .i64 t0) (h' := h_4) (by kernel_rfl) (by kernel_rfl) (by kernel_rfl) ?_
    refine WL.val (d := (some 9)) (v := .int .i64 t1) (h' := h_4) (by kernel_rfl) (by kernel_rfl) (by kernel_rfl) ?_
    refine WL.val (d := (some 10)) (v := .agg ([.int .i64 t0, .int .i64 t1] : List AV)) (h' := h_4) (by kernel_rfl) (by kernel_rfl) (by kernel_rfl) ?_
    replace hF := callN_some hF; obtain ⟨r11, h_12, e13, hF⟩ := hF
    replace hF := obind_some hF; obtain ⟨t11, c14, hF⟩ := hF
    have c14 := avBool_some c14
    subst c14
    refine WL.call (hc.ok w0) (d := (some 11)) (by kernel_rfl) (by kernel_rfl) (by kernel_rfl) e13 ?_
    refine WL.nil (by kernel_rfl) ?_
    refine Go.weaken (l' := [(0, .int .i64 t0), (1, .int .i64 t1), (5, .int .i64 2), (11, .bool t11)]) (Fr.sub_cons (by kernel_rfl) (Fr.sub_cons (by kernel_rfl) (Fr.sub_cons (by kernel_rfl) (Fr.sub_cons (by kernel_rfl) (Fr.sub_nil _))))) ?_
    refine n11 ?_
    replace hF := lett_some hF; obtain ⟨k15, e15, hF⟩ := hF
    have J15 : ∀ (t5 : Int) (h_16 : AHeap), k15 t5 h_16 = some (rR, hR) → Go w0 m0 (Func.ntmps Try.f4) (K10 .normal) [(0, .int .i64 t0), (1, .int .i64 t1), (5, .int .i64 t5)] [] h_16 := by
      intro t5 h_16 hF
      rw [e15] at hF
      refine n10 ?_
      refine W.seqK (by kernel_rfl) (fun K17 n17 e17 r17 p17 => ?_)
      refine W.region (by kernel_rfl) ?_
      refine WL.val (d := (some 12)) (v := .int .i64 t0) (h' := h_16) (by kernel_rfl) (by kernel_rfl) (by kernel_rfl) ?_
      refine WL.val (d := (some 13)) (v := .int .i64 t1) (h' := h_16) (by kernel_rfl) (by kernel_rfl) (by kernel_rfl) ?_
      refine WL.val (d := (some 14)) (v := .agg ([.int .i64 t0, .int .i64 t1] : List AV)) (h' := h_16) (by kernel_rfl) (by kernel_rfl) (by kernel_rfl) ?_
      replace hF := callN_some hF; obtain ⟨r15, h_18, e19, hF⟩ := hF
      replace hF := obind_some hF; obtain ⟨t15, c20, hF⟩ := hF
      have c20 := avInt_some c20
      subst c20
      refine WL.call (hc.ok w0) (d := (some 15)) (by kernel_rfl) (by kernel_rfl) (by kernel_rfl) e19 ?_
      refine WL.val (d := (some 16)) (v := .int .i64 t5) (h' := h_18) (by kernel_rfl) (by kernel_rfl) (by kernel_rfl) ?_
      replace hF := lett_some hF; obtain ⟨t17, e21, hF⟩ := hF
      refine WL.val (d := (some 17)) (v := .bool t17) (h' := h_18) (by kernel_rfl) (by kernel_rfl) (val_of AV.bool e21 (by kernel_rfl)) ?_
      refine WL.val (d := (some 4)) (v := .bool t17) (h' := h_18) (by kernel_rfl) (by kernel_rfl) (by kernel_rfl) ?_
      refine WL.nil (by kernel_rfl) ?_
      refine Go.weaken (l' := [(4, .bool t17)]) (Fr.sub_cons (by kernel_rfl) (Fr.sub_nil _)) ?_
      refine n17 ?_
      refine W.ret (by kernel_rfl) ?_
      obtain ⟨hF, hF2⟩ := ret_inj hF; subst hF; subst hF2
      exact leave_of (rs := [.tmp 4]) (vs := [.bool t17]) (by kernel_rfl) (res_tmp (by kernel_rfl) res_nil) (by kernel_rfl)
    cases t11 with
    | true =>
      replace hF := ifB_t hF
      refine W.cond_true (by kernel_rfl) (by kernel_rfl) ?_
      refine W.region (by kernel_rfl) ?_
      refine WL.val (d := (some 5)) (v := .int .i64 0) (h' := h_12) (by kernel_rfl) (by kernel_rfl) (by kernel_rfl) ?_
      refine WL.nil (by kernel_rfl) ?_
      refine Go.weaken (l' := [(0, .int .i64 t0), (1, .int .i64 t1), (5, .int .i64 0)]) (Fr.sub_cons (by kernel_rfl) (Fr.sub_cons (by kernel_rfl) (Fr.sub_cons (by kernel_rfl) (Fr.sub_nil _)))) ?_
      exact Go.weaken (Fr.sub_cons (by kernel_rfl) (Fr.sub_cons (by kernel_rfl) (Fr.sub_cons (by kernel_rfl) (Fr.sub_nil _)))) (J15 _ _ hF)
    | false =>
      replace hF := ifB_f hF
      refine W.cond_false (by kernel_rfl) (by kernel_rfl) ?_
      refine W.skip (by kernel_rfl) ?_
      exact Go.weaken (Fr.sub_cons (by kernel_rfl) (Fr.sub_cons (by kernel_rfl) (Fr.sub_cons (by kernel_rfl) (Fr.sub_nil _)))) (J15 _ _ hF)
noncomputable def law08_VoteChecks_fn (call : CallF) (n : Nat) : FnT := fun args h => match args with
  | [x0, x1] => obind (avInt .i64 x0) fun t0 => obind (avInt .i64 x1) fun t1 => law08_VoteChecks call n t0 t1 h
  | _ => none
set_option maxRecDepth 100000 in
theorem law08_VoteChecks_fn_eq (call : CallF) (n : Nat) (t0 : Int) (t1 : Int) (h : AHeap) : law08_VoteChecks_fn call n [.int .i64 t0, .int .i64 t1] h = law08_VoteChecks call n t0 t1 h :=
  (Eq.trans (obind_eq (fun t0 => obind (avInt .i64 (.int .i64 t1)) fun t1 => law08_VoteChecks call n t0 t1 h) (avInt_int .i64 t0)) (Eq.trans (obind_eq (fun t1 => law08_VoteChecks call n t0 t1 h) (avInt_int .i64 t1)) rfl))
theorem law08_VoteChecks_holds {call : CallF} (hc : SaysAll Try.prog call) (n : Nat) : Holds Try.prog 4 (law08_VoteChecks_fn call n) := by
  intro args h r h2 e
  unfold law08_VoteChecks_fn at e
  split at e
  · replace e := obind_some e; obtain ⟨t0, c0, e⟩ := e; have c0 := avInt_some c0; subst c0
    replace e := obind_some e; obtain ⟨t1, c1, e⟩ := e; have c1 := avInt_some c1; subst c1
    exact law08_VoteChecks_ok hc e
  · cases e

end Go.Proofs.Yteecmjmglmpbpaa
