/- Plain functions in place of the program's, and that their calls come to what they say. -/
import Derived.Test.YtijhmmimffgjiaaFrame
import Derived.Test.YtijhmmimffgjiaaAbs29
import Derived.Test.YtijhmmimffgjiaaGu
namespace Go.Proofs.Ytijhmmimffgjiaa
open Go.RowKit Abs

noncomputable def law09_PatternQuotes (call : CallF) (_ : Nat) (t0 : Bytes) (h : AHeap) : R :=
  callN (call 13 [] h) fun r6 h_4 =>
  obind (avBool r6) fun t6 =>
  lett (!t6) fun (t7 : Bool) =>
  ifB t7
  (
    some (.ret (.bool false), h_4))
  (
    callN (call 14 [.int .i64 (lenS t0)] h_4) fun r10 h_11 =>
    obind (avBool r10) fun t10 =>
    ifB t10
    (
      some (.ret (.bool true), h_11))
    (
      callN (call 15 [strA t0] h_11) fun r12 h_16 =>
      obind (avStr r12) fun t12 =>
      callN (call 16 [strA t12] h_16) fun r15 h_20 =>
      obind (extT 0 r15) fun v16 =>
      obind (avStr v16) fun t16 =>
      obind (extT 1 r15) fun v17 =>
      obind (avAgg v17) fun t17 =>
      lett (newH h_20 27 [.int .i64 0, .int .i64 0]) fun h_26 =>
      obind (stRow h_26 2 t17 (newP h_20)) fun h_28 =>
      callN (call 17 [strA t0] h_28) fun r20 h_31 =>
      obind (avStr r20) fun t20 =>
      lett (eqS t12 t20) fun (t21 : Bool) =>
      lett (fun (t26 : Bool) (h_35 : AHeap) =>
        lett (fun (t31 : Bool) (h_38 : AHeap) =>
          some (.ret (.bool t31), h_38)) fun j31 =>
        ifB t26
        (
          obind (ldRow h_35 2 (newP h_20)) fun t28 =>
          obind (eqOther Try.prog 27 (.agg t28) (.agg ([.int .i64 0, .int .i64 0] : List AV))) fun t30 =>
          j31 t30 h_35)
        (
          j31 false h_35)) fun j26 =>
      ifB t21
      (
        lett (eqS t16 t0) fun (t25 : Bool) =>
        j26 t25 h_31)
      (
        j26 false h_31)))
set_option maxHeartbeats 4000000 in
set_option maxRecDepth 20000 in
theorem law09_PatternQuotes_ok {call : CallF} (hc : SaysAll Try.prog call) {n : Nat} {t0 : Bytes} {h : AHeap} {rR : ARes} {hR : AHeap} (hF : law09_PatternQuotes call n t0 h = some (rR, hR)) : Says Try.prog 3 [strA t0] h rR hR := by
  unfold law09_PatternQuotes at hF
  refine says_of (fn := Try.f3) Try.func3 (c := codeOf Try.f3) (by kernel_rfl) (by kernel_rfl) (fun w0 m0 => ?_)
  refine W.weaken (l' := [(0, strA t0)]) (Fr.sub_cons (by kernel_rfl) (Fr.sub_nil _)) ?_
  refine W.seqK (by kernel_rfl) (fun K1 n1 e1 r1 p1 => ?_)
  refine W.region (by kernel_rfl) ?_
  refine WL.val (d := (some 2)) (v := .bool false) (h' := h) (by kernel_rfl) (by kernel_rfl) (by kernel_rfl) ?_
  refine WL.nil (by kernel_rfl) ?_
  refine Go.weaken (l' := [(0, strA t0)]) (Fr.sub_cons (by kernel_rfl) (Fr.sub_nil _)) ?_
  refine n1 ?_
  refine W.seqK (by kernel_rfl) (fun K2 n2 e2 r2 p2 => ?_)
  refine W.seqK (by kernel_rfl) (fun K3 n3 e3 r3 p3 => ?_)
  refine W.region (by kernel_rfl) ?_
  replace hF := callN_some hF; obtain ⟨r6, h_4, e5, hF⟩ := hF
  replace hF := obind_some hF; obtain ⟨t6, c6, hF⟩ := hF
  have c6 := avBool_some c6
  subst c6
  refine WL.call (hc.ok w0) (d := (some 6)) (by kernel_rfl) (by kernel_rfl) (by kernel_rfl) e5 ?_
  replace hF := lett_some hF; obtain ⟨t7, e7, hF⟩ := hF
  refine WL.val (d := (some 7)) (v := .bool t7) (h' := h_4) (by kernel_rfl) (by kernel_rfl) (val_of AV.bool e7 (by kernel_rfl)) ?_
  refine WL.nil (by kernel_rfl) ?_
  refine Go.weaken (l' := [(0, strA t0), (7, .bool t7)]) (Fr.sub_cons (by kernel_rfl) (Fr.sub_cons (by kernel_rfl) (Fr.sub_nil _))) ?_
  refine n3 ?_
  cases t7 with
  | true =>
    replace hF := ifB_t hF
    refine W.cond_true (by kernel_rfl) (by kernel_rfl) ?_
    refine W.seqK (by kernel_rfl) (fun K8 n8 e8 r8 p8 => ?_)
    refine W.region (by kernel_rfl) ?_
    refine WL.val (d := (some 2)) (v := .bool false) (h' := h_4) (by kernel_rfl) (by kernel_rfl) (by kernel_rfl) ?_
    refine WL.nil (by kernel_rfl) ?_
    refine Go.weaken (l' := [(2, .bool false)]) (Fr.sub_cons (by kernel_rfl) (Fr.sub_nil _)) ?_
    refine n8 ?_
    refine W.ret (by kernel_rfl) ?_
    refine r2 ?_
    obtain ⟨hF, hF2⟩ := ret_inj hF; subst hF; subst hF2
    exact leave_of (rs := [.tmp 2]) (vs := [.bool false]) (by kernel_rfl) (res_tmp (by kernel_rfl) res_nil) (by kernel_rfl)
  | false =>
    replace hF := ifB_f hF
    refine W.cond_false (by kernel_rfl) (by kernel_rfl) ?_
    refine W.skip (by kernel_rfl) ?_
    refine n2 ?_
    refine W.seqK (by kernel_rfl) (fun K9 n9 e9 r9 p9 => ?_)
    refine W.seqK (by kernel_rfl) (fun K10 n10 e10 r10 p10 => ?_)
    refine W.region (by kernel_rfl) ?_
    refine WL.val (d := (some 8)) (v := strA t0) (h' := h_4) (by kernel_rfl) (by kernel_rfl) (by kernel_rfl) ?_
    refine WL.val (d := (some 9)) (v := .int .i64 (lenS t0)) (h' := h_4) (by kernel_rfl) (by kernel_rfl) (by kernel_rfl) ?_
    replace hF := callN_some hF; obtain ⟨r10, h_11, e12, hF⟩ := hF
    replace hF := obind_some hF; obtain ⟨t10, c13, hF⟩ := hF
    have c13 := avBool_some c13
    subst c13
    refine WL.call (hc.ok w0) (d := (some 10)) (by kernel_rfl) (by kernel_rfl) (by kernel_rfl) e12 ?_
    refine WL.nil (by kernel_rfl) ?_
    refine Go.weaken (l' := [(0, strA t0), (10, .bool t10)]) (Fr.sub_cons (by kernel_rfl) (Fr.sub_cons (by kernel_rfl) (Fr.sub_nil _))) ?_
    refine n10 ?_
    cases t10 with
    | true =>
      replace hF := ifB_t hF
      refine W.cond_true (by kernel_rfl) (by kernel_rfl) ?_
      refine W.seqK (by kernel_rfl) (fun K14 n14 e14 r14 p14 => ?_)
      refine W.region (by kernel_rfl) ?_
      refine WL.val (d := (some 2)) (v := .bool true) (h' := h_11) (by kernel_rfl) (by kernel_rfl) (by kernel_rfl) ?_
      refine WL.nil (by kernel_rfl) ?_
      refine Go.weaken (l' := [(2, .bool true)]) (Fr.sub_cons (by kernel_rfl) (Fr.sub_nil _)) ?_
      refine n14 ?_
      refine W.ret (by kernel_rfl) ?_
      refine r9 ?_
      obtain ⟨hF, hF2⟩ := ret_inj hF; subst hF; subst hF2
      exact leave_of (rs := [.tmp 2]) (vs := [.bool true]) (by kernel_rfl) (res_tmp (by kernel_rfl) res_nil) (by kernel_rfl)
    | false =>
      replace hF := ifB_f hF
      refine W.cond_false (by kernel_rfl) (by kernel_rfl) ?_
      refine W.skip (by kernel_rfl) ?_
      refine n9 ?_
      refine W.seqK (by kernel_rfl) (fun K15 n15 e15 r15 p15 => ?_)
      refine W.region (by kernel_rfl) ?_
      refine WL.val (d := (some 11)) (v := strA t0) (h' := h_11) (by kernel_rfl) (by kernel_rfl) (by kernel_rfl) ?_
      replace hF := callN_some hF; obtain ⟨r12, h_16, e17, hF⟩ := hF
      replace hF := obind_some hF; obtain ⟨t12, c18, hF⟩ := hF
      have c18 := avStr_some c18
      subst c18
      refine WL.call (hc.ok w0) (d := (some 12)) (by kernel_rfl) (by kernel_rfl) (by kernel_rfl) e17 ?_
      refine WL.val (d := (some 3)) (v := strA t12) (h' := h_16) (by kernel_rfl) (by kernel_rfl) (by kernel_rfl) ?_
      refine WL.nil (by kernel_rfl) ?_
      refine Go.weaken (l' := [(0, strA t0), (3, strA t12)]) (Fr.sub_cons (by kernel_rfl) (Fr.sub_cons (by kernel_rfl) (Fr.sub_nil _))) ?_
      refine n15 ?_
      refine W.seqK (by kernel_rfl) (fun K19 n19 e19 r19 p19 => ?_)
      refine W.region (by kernel_rfl) ?_
      refine WL.val (d := (some 14)) (v := strA t12) (h' := h_16) (by kernel_rfl) (by kernel_rfl) (by kernel_rfl) ?_
      replace hF := callN_some hF; obtain ⟨r15, h_20, e21, hF⟩ := hF
      refine WL.call (hc.ok w0) (d := (some 15)) (by kernel_rfl) (by kernel_rfl) (by kernel_rfl) e21 ?_
      refine WL.val (d := (some 13)) (v := r15) (h' := h_20) (by kernel_rfl) (by kernel_rfl) (by kernel_rfl) ?_
      replace hF := obind_some hF; obtain ⟨v16, e22, hF⟩ := hF
      replace hF := obind_some hF; obtain ⟨t16, c23, hF⟩ := hF
      have c23 := avStr_some c23
      subst c23
      refine WL.val (d := (some 16)) (v := strA t16) (h' := h_20) (by kernel_rfl) (by kernel_rfl) (Eq.trans (by kernel_rfl) (extract_tup (h := h_20) e22)) ?_
      replace hF := obind_some hF; obtain ⟨v17, e24, hF⟩ := hF
      replace hF := obind_some hF; obtain ⟨t17, c25, hF⟩ := hF
      have c25 := avAgg_some c25
      subst c25
      refine WL.val (d := (some 17)) (v := .agg t17) (h' := h_20) (by kernel_rfl) (by kernel_rfl) (Eq.trans (by kernel_rfl) (extract_tup (h := h_20) e24)) ?_
      replace hF := lett_some hF; obtain ⟨h_26, e27, hF⟩ := hF
      refine WL.val (d := (some 5)) (v := (newP h_20)) (h' := h_26) (by kernel_rfl) (by kernel_rfl) (val_ofH e27 (by kernel_rfl)) ?_
      refine WL.val (d := (some 4)) (v := strA t16) (h' := h_26) (by kernel_rfl) (by kernel_rfl) (by kernel_rfl) ?_
      replace hF := obind_some hF; obtain ⟨h_28, e29, hF⟩ := hF
      refine WL.eff (h' := h_28) (by kernel_rfl) (by kernel_rfl) (Eq.trans (by kernel_rfl) (store_row (P := Try.prog) (h := h_26) (t := 27) (v := (.agg t17)) (by kernel_rfl) (by kernel_rfl) e29)) ?_
      refine WL.nil (by kernel_rfl) ?_
      refine Go.weaken (l' := [(0, strA t0), (3, strA t12), (4, strA t16), (5, (newP h_20))]) (Fr.sub_cons (by kernel_rfl) (Fr.sub_cons (by kernel_rfl) (Fr.sub_cons (by kernel_rfl) (Fr.sub_cons (by kernel_rfl) (Fr.sub_nil _))))) ?_
      refine n19 ?_
      refine W.seqK (by kernel_rfl) (fun K30 n30 e30 r30 p30 => ?_)
      refine W.region (by kernel_rfl) ?_
      refine WL.val (d := (some 18)) (v := strA t12) (h' := h_28) (by kernel_rfl) (by kernel_rfl) (by kernel_rfl) ?_
      refine WL.val (d := (some 19)) (v := strA t0) (h' := h_28) (by kernel_rfl) (by kernel_rfl) (by kernel_rfl) ?_
      replace hF := callN_some hF; obtain ⟨r20, h_31, e32, hF⟩ := hF
      replace hF := obind_some hF; obtain ⟨t20, c33, hF⟩ := hF
      have c33 := avStr_some c33
      subst c33
      refine WL.call (hc.ok w0) (d := (some 20)) (by kernel_rfl) (by kernel_rfl) (by kernel_rfl) e32 ?_
      replace hF := lett_some hF; obtain ⟨t21, e34, hF⟩ := hF
      refine WL.val (d := (some 21)) (v := .bool t21) (h' := h_31) (by kernel_rfl) (by kernel_rfl) (val_of AV.bool e34 (by kernel_rfl)) ?_
      refine WL.val (d := (some 22)) (v := .bool t21) (h' := h_31) (by kernel_rfl) (by kernel_rfl) (by kernel_rfl) ?_
      replace hF := lett_some hF; obtain ⟨j26, e36, hF⟩ := hF
      have J37 : ∀ (t26 : Bool) (h_35 : AHeap), j26 t26 h_35 = some (rR, hR) → WL Try.prog w0 m0 (Func.ntmps Try.f3) (Code.ops (Code.p1 (Code.p2 (Code.p2 (Code.p2 (Code.p2 (Code.p2 (codeOf Try.f3)))))))) 9 K30 [(5, (newP h_20)), (26, .bool t26)] [] h_35 := by
        intro t26 h_35 hF
        rw [e36] at hF
        refine WL.val (d := (some 27)) (v := .bool t26) (h' := h_35) (by kernel_rfl) (by kernel_rfl) (by kernel_rfl) ?_
        replace hF := lett_some hF; obtain ⟨j31, e39, hF⟩ := hF
        have J40 : ∀ (t31 : Bool) (h_38 : AHeap), j31 t31 h_38 = some (rR, hR) → WL Try.prog w0 m0 (Func.ntmps Try.f3) (Code.ops (Code.p1 (Code.p2 (Code.p2 (Code.p2 (Code.p2 (Code.p2 (codeOf Try.f3)))))))) 14 K30 [(31, .bool t31)] [] h_38 := by
          intro t31 h_38 hF
          rw [e39] at hF
          refine WL.val (d := (some 2)) (v := .bool t31) (h' := h_38) (by kernel_rfl) (by kernel_rfl) (by kernel_rfl) ?_
          refine WL.nil (by kernel_rfl) ?_
          refine Go.weaken (l' := [(2, .bool t31)]) (Fr.sub_cons (by kernel_rfl) (Fr.sub_nil _)) ?_
          refine n30 ?_
          refine W.ret (by kernel_rfl) ?_
          obtain ⟨hF, hF2⟩ := ret_inj hF; subst hF; subst hF2
          exact leave_of (rs := [.tmp 2]) (vs := [.bool t31]) (by kernel_rfl) (res_tmp (by kernel_rfl) res_nil) (by kernel_rfl)
        cases t26 with
        | true =>
          replace hF := ifB_t hF
          replace hF := obind_some hF; obtain ⟨t28, e41, hF⟩ := hF
          refine WL.val (d := (some 28)) (v := .agg t28) (h' := h_35) (by kernel_rfl) (by kernel_rfl) (Eq.trans (by kernel_rfl) (load_row (P := Try.prog) (h := h_35) (t := 27) (by kernel_rfl) (by kernel_rfl) e41)) ?_
          refine WL.val (d := (some 29)) (v := .agg ([.int .i64 0, .int .i64 0] : List AV)) (h' := h_35) (by kernel_rfl) (by kernel_rfl) (by kernel_rfl) ?_
          replace hF := obind_some hF; obtain ⟨t30, e42, hF⟩ := hF
          refine WL.val (d := (some 30)) (v := .bool t30) (h' := h_35) (by kernel_rfl) (by kernel_rfl) (Eq.trans (by kernel_rfl) (eq_other (P := Try.prog) (h := h_35) (t := 27) (lit := false) (by kernel_rfl) e42)) ?_
          refine WL.val (d := (some 31)) (v := .bool t30) (h' := h_35) (by kernel_rfl) (by kernel_rfl) (by kernel_rfl) ?_
          exact WL.weaken (Fr.sub_cons (by kernel_rfl) (Fr.sub_nil _)) (J40 _ _ hF)
        | false =>
          replace hF := ifB_f hF
          refine WL.not (d := (some 28)) (by kernel_rfl) (by kernel_rfl) ?_
          refine WL.not (d := (some 29)) (by kernel_rfl) (by kernel_rfl) ?_
          refine WL.not (d := (some 30)) (by kernel_rfl) (by kernel_rfl) ?_
          refine WL.val (d := (some 31)) (v := .bool false) (h' := h_35) (by kernel_rfl) (by kernel_rfl) (by kernel_rfl) ?_
          exact WL.weaken (Fr.sub_cons (by kernel_rfl) (Fr.sub_nil _)) (J40 _ _ hF)
      cases t21 with
      | true =>
        replace hF := ifB_t hF
        refine WL.val (d := (some 23)) (v := strA t16) (h' := h_31) (by kernel_rfl) (by kernel_rfl) (by kernel_rfl) ?_
        refine WL.val (d := (some 24)) (v := strA t0) (h' := h_31) (by kernel_rfl) (by kernel_rfl) (by kernel_rfl) ?_
        replace hF := lett_some hF; obtain ⟨t25, e43, hF⟩ := hF
        refine WL.val (d := (some 25)) (v := .bool t25) (h' := h_31) (by kernel_rfl) (by kernel_rfl) (val_of AV.bool e43 (by kernel_rfl)) ?_
        refine WL.val (d := (some 26)) (v := .bool t25) (h' := h_31) (by kernel_rfl) (by kernel_rfl) (by kernel_rfl) ?_
        exact WL.weaken (Fr.sub_cons (by kernel_rfl) (Fr.sub_cons (by kernel_rfl) (Fr.sub_nil _))) (J37 _ _ hF)
      | false =>
        replace hF := ifB_f hF
        refine WL.not (d := (some 23)) (by kernel_rfl) (by kernel_rfl) ?_
        refine WL.not (d := (some 24)) (by kernel_rfl) (by kernel_rfl) ?_
        refine WL.not (d := (some 25)) (by kernel_rfl) (by kernel_rfl) ?_
        refine WL.val (d := (some 26)) (v := .bool false) (h' := h_31) (by kernel_rfl) (by kernel_rfl) (by kernel_rfl) ?_
        exact WL.weaken (Fr.sub_cons (by kernel_rfl) (Fr.sub_cons (by kernel_rfl) (Fr.sub_nil _))) (J37 _ _ hF)
noncomputable def law09_PatternQuotes_fn (call : CallF) (n : Nat) : FnT := fun args h => match args with
  | [x0] => obind (avStr x0) fun t0 => law09_PatternQuotes call n t0 h
  | _ => none
set_option maxRecDepth 100000 in
theorem law09_PatternQuotes_fn_eq (call : CallF) (n : Nat) (t0 : Bytes) (h : AHeap) : law09_PatternQuotes_fn call n [strA t0] h = law09_PatternQuotes call n t0 h :=
  (Eq.trans (obind_eq (fun t0 => law09_PatternQuotes call n t0 h) (avStr_str t0)) rfl)
theorem law09_PatternQuotes_holds {call : CallF} (hc : SaysAll Try.prog call) (n : Nat) : Holds Try.prog 3 (law09_PatternQuotes_fn call n) := by
  intro args h r h2 e
  unfold law09_PatternQuotes_fn at e
  split at e
  · replace e := obind_some e; obtain ⟨t0, c0, e⟩ := e; have c0 := avStr_some c0; subst c0
    exact law09_PatternQuotes_ok hc e
  · cases e

noncomputable def law09_long (_ : CallF) (_ : Nat) (t0 : Int) (h : AHeap) : R :=
  lett (decide (t0 > 65536)) fun (t4 : Bool) =>
  some (.ret (.bool t4), h)
set_option maxHeartbeats 4000000 in
set_option maxRecDepth 20000 in
theorem law09_long_ok {call : CallF} (_ : SaysAll Try.prog call) {n : Nat} {t0 : Int} {h : AHeap} {rR : ARes} {hR : AHeap} (hF : law09_long call n t0 h = some (rR, hR)) : Says Try.prog 14 [.int .i64 t0] h rR hR := by
  unfold law09_long at hF
  refine says_of (fn := Try.f14) Try.func14 (c := codeOf Try.f14) (by kernel_rfl) (by kernel_rfl) (fun w0 m0 => ?_)
  refine W.weaken (l' := [(0, .int .i64 t0)]) (Fr.sub_cons (by kernel_rfl) (Fr.sub_nil _)) ?_
  refine W.seqK (by kernel_rfl) (fun K1 n1 e1 r1 p1 => ?_)
  refine W.region (by kernel_rfl) ?_
  refine WL.val (d := (some 2)) (v := .bool false) (h' := h) (by kernel_rfl) (by kernel_rfl) (by kernel_rfl) ?_
  refine WL.nil (by kernel_rfl) ?_
  refine Go.weaken (l' := [(0, .int .i64 t0)]) (Fr.sub_cons (by kernel_rfl) (Fr.sub_nil _)) ?_
  refine n1 ?_
  refine W.seqK (by kernel_rfl) (fun K2 n2 e2 r2 p2 => ?_)
  refine W.region (by kernel_rfl) ?_
  refine WL.val (d := (some 3)) (v := .int .i64 t0) (h' := h) (by kernel_rfl) (by kernel_rfl) (by kernel_rfl) ?_
  replace hF := lett_some hF; obtain ⟨t4, e3, hF⟩ := hF
  refine WL.val (d := (some 4)) (v := .bool t4) (h' := h) (by kernel_rfl) (by kernel_rfl) (val_of AV.bool e3 (by kernel_rfl)) ?_
  refine WL.val (d := (some 2)) (v := .bool t4) (h' := h) (by kernel_rfl) (by kernel_rfl) (by kernel_rfl) ?_
  refine WL.nil (by kernel_rfl) ?_
  refine Go.weaken (l' := [(2, .bool t4)]) (Fr.sub_cons (by kernel_rfl) (Fr.sub_nil _)) ?_
  refine n2 ?_
  refine W.ret (by kernel_rfl) ?_
  obtain ⟨hF, hF2⟩ := ret_inj hF; subst hF; subst hF2
  exact leave_of (rs := [.tmp 2]) (vs := [.bool t4]) (by kernel_rfl) (res_tmp (by kernel_rfl) res_nil) (by kernel_rfl)
noncomputable def law09_long_fn (call : CallF) (n : Nat) : FnT := fun args h => match args with
  | [x0] => obind (avInt .i64 x0) fun t0 => law09_long call n t0 h
  | _ => none
set_option maxRecDepth 100000 in
theorem law09_long_fn_eq (call : CallF) (n : Nat) (t0 : Int) (h : AHeap) : law09_long_fn call n [.int .i64 t0] h = law09_long call n t0 h :=
  (Eq.trans (obind_eq (fun t0 => law09_long call n t0 h) (avInt_int .i64 t0)) rfl)
theorem law09_long_holds {call : CallF} (hc : SaysAll Try.prog call) (n : Nat) : Holds Try.prog 14 (law09_long_fn call n) := by
  intro args h r h2 e
  unfold law09_long_fn at e
  split at e
  · replace e := obind_some e; obtain ⟨t0, c0, e⟩ := e; have c0 := avInt_some c0; subst c0
    exact law09_long_ok hc e
  · cases e

noncomputable def strings_IndexByte (call : CallF) (_ : Nat) (t0 : Bytes) (t1 : Int) (h : AHeap) : R :=
  callN (call 90 [strA t0, .int .u8 t1] h) fun r7 h_3 =>
  obind (avInt .i64 r7) fun t7 =>
  some (.ret (.int .i64 t7), h_3)
set_option maxHeartbeats 4000000 in
set_option maxRecDepth 20000 in
theorem strings_IndexByte_ok {call : CallF} (hc : SaysAll Try.prog call) {n : Nat} {t0 : Bytes} {t1 : Int} {h : AHeap} {rR : ARes} {hR : AHeap} (hF : strings_IndexByte call n t0 t1 h = some (rR, hR)) : Says Try.prog 87 [strA t0, .int .u8 t1] h rR hR := by
  unfold strings_IndexByte at hF
  refine says_of (fn := Try.f87) Try.func87 (c := codeOf Try.f87) (by kernel_rfl) (by kernel_rfl) (fun w0 m0 => ?_)
  refine W.weaken (l' := [(0, strA t0), (1, .int .u8 t1)]) (Fr.sub_cons (by kernel_rfl) (Fr.sub_cons (by kernel_rfl) (Fr.sub_nil _))) ?_
  refine W.seqK (by kernel_rfl) (fun K1 n1 e1 r1 p1 => ?_)
  refine W.region (by kernel_rfl) ?_
  refine WL.val (d := (some 4)) (v := .int .i64 0) (h' := h) (by kernel_rfl) (by kernel_rfl) (by kernel_rfl) ?_
  refine WL.nil (by kernel_rfl) ?_
  refine Go.weaken (l' := [(0, strA t0), (1, .int .u8 t1)]) (Fr.sub_cons (by kernel_rfl) (Fr.sub_cons (by kernel_rfl) (Fr.sub_nil _))) ?_
  refine n1 ?_
  refine W.seqK (by kernel_rfl) (fun K2 n2 e2 r2 p2 => ?_)
  refine W.region (by kernel_rfl) ?_
  refine WL.val (d := (some 5)) (v := strA t0) (h' := h) (by kernel_rfl) (by kernel_rfl) (by kernel_rfl) ?_
  refine WL.val (d := (some 6)) (v := .int .u8 t1) (h' := h) (by kernel_rfl) (by kernel_rfl) (by kernel_rfl) ?_
  replace hF := callN_some hF; obtain ⟨r7, h_3, e4, hF⟩ := hF
  replace hF := obind_some hF; obtain ⟨t7, c5, hF⟩ := hF
  have c5 := avInt_some c5
  subst c5
  refine WL.call (hc.ok w0) (d := (some 7)) (by kernel_rfl) (by kernel_rfl) (by kernel_rfl) e4 ?_
  refine WL.val (d := (some 4)) (v := .int .i64 t7) (h' := h_3) (by kernel_rfl) (by kernel_rfl) (by kernel_rfl) ?_
  refine WL.nil (by kernel_rfl) ?_
  refine Go.weaken (l' := [(4, .int .i64 t7)]) (Fr.sub_cons (by kernel_rfl) (Fr.sub_nil _)) ?_
  refine n2 ?_
  refine W.ret (by kernel_rfl) ?_
  obtain ⟨hF, hF2⟩ := ret_inj hF; subst hF; subst hF2
  exact leave_of (rs := [.tmp 4]) (vs := [.int .i64 t7]) (by kernel_rfl) (res_tmp (by kernel_rfl) res_nil) (by kernel_rfl)
noncomputable def strings_IndexByte_fn (call : CallF) (n : Nat) : FnT := fun args h => match args with
  | [x0, x1] => obind (avStr x0) fun t0 => obind (avInt .u8 x1) fun t1 => strings_IndexByte call n t0 t1 h
  | _ => none
set_option maxRecDepth 100000 in
theorem strings_IndexByte_fn_eq (call : CallF) (n : Nat) (t0 : Bytes) (t1 : Int) (h : AHeap) : strings_IndexByte_fn call n [strA t0, .int .u8 t1] h = strings_IndexByte call n t0 t1 h :=
  (Eq.trans (obind_eq (fun t0 => obind (avInt .u8 (.int .u8 t1)) fun t1 => strings_IndexByte call n t0 t1 h) (avStr_str t0)) (Eq.trans (obind_eq (fun t1 => strings_IndexByte call n t0 t1 h) (avInt_int .u8 t1)) rfl))
theorem strings_IndexByte_holds {call : CallF} (hc : SaysAll Try.prog call) (n : Nat) : Holds Try.prog 87 (strings_IndexByte_fn call n) := by
  intro args h r h2 e
  unfold strings_IndexByte_fn at e
  split at e
  · replace e := obind_some e; obtain ⟨t0, c0, e⟩ := e; have c0 := avStr_some c0; subst c0
    replace e := obind_some e; obtain ⟨t1, c1, e⟩ := e; have c1 := avInt_some c1; subst c1
    exact strings_IndexByte_ok hc e
  · cases e

noncomputable def internal_stringslite_IndexByte (_ : CallF) (_ : Nat) (t0 : Bytes) (t1 : Int) (h : AHeap) : R :=
  outK (externA Try.prog h 92 [strA t0, .int .u8 t1]) fun v7 h_6 =>
  obind (avInt .i64 v7) fun t7_8 =>
  some (.ret (.int .i64 t7_8), h_6)
set_option maxHeartbeats 4000000 in
set_option maxRecDepth 20000 in
theorem internal_stringslite_IndexByte_ok {call : CallF} (_ : SaysAll Try.prog call) {n : Nat} {t0 : Bytes} {t1 : Int} {h : AHeap} {rR : ARes} {hR : AHeap} (hF : internal_stringslite_IndexByte call n t0 t1 h = some (rR, hR)) : Says Try.prog 90 [strA t0, .int .u8 t1] h rR hR := by
  unfold internal_stringslite_IndexByte at hF
  refine says_of (fn := Try.f90) Try.func90 (c := codeOf Try.f90) (by kernel_rfl) (by kernel_rfl) (fun w0 m0 => ?_)
  refine W.weaken (l' := [(0, strA t0), (1, .int .u8 t1)]) (Fr.sub_cons (by kernel_rfl) (Fr.sub_cons (by kernel_rfl) (Fr.sub_nil _))) ?_
  refine W.seqK (by kernel_rfl) (fun K1 n1 e1 r1 p1 => ?_)
  refine W.region (by kernel_rfl) ?_
  refine WL.val (d := (some 4)) (v := .int .i64 0) (h' := h) (by kernel_rfl) (by kernel_rfl) (by kernel_rfl) ?_
  refine WL.nil (by kernel_rfl) ?_
  refine Go.weaken (l' := [(0, strA t0), (1, .int .u8 t1)]) (Fr.sub_cons (by kernel_rfl) (Fr.sub_cons (by kernel_rfl) (Fr.sub_nil _))) ?_
  refine n1 ?_
  refine W.seqK (by kernel_rfl) (fun K2 n2 e2 r2 p2 => ?_)
  refine W.region (by kernel_rfl) ?_
  refine WL.val (d := (some 5)) (v := strA t0) (h' := h) (by kernel_rfl) (by kernel_rfl) (by kernel_rfl) ?_
  refine WL.val (d := (some 6)) (v := .int .u8 t1) (h' := h) (by kernel_rfl) (by kernel_rfl) (by kernel_rfl) ?_
  replace hF := outK_some hF; obtain ⟨v7, h_6, e7, hF⟩ := hF
  replace hF := obind_some hF; obtain ⟨t7_8, c9, hF⟩ := hF
  have c9 := avInt_some c9
  subst c9
  refine WL.val (d := (some 7)) (v := .int .i64 t7_8) (h' := h_6) (by kernel_rfl) (by kernel_rfl) (Eq.trans (by kernel_rfl) e7) ?_
  refine WL.val (d := (some 4)) (v := .int .i64 t7_8) (h' := h_6) (by kernel_rfl) (by kernel_rfl) (by kernel_rfl) ?_
  refine WL.nil (by kernel_rfl) ?_
  refine Go.weaken (l' := [(4, .int .i64 t7_8)]) (Fr.sub_cons (by kernel_rfl) (Fr.sub_nil _)) ?_
  refine n2 ?_
  refine W.ret (by kernel_rfl) ?_
  obtain ⟨hF, hF2⟩ := ret_inj hF; subst hF; subst hF2
  exact leave_of (rs := [.tmp 4]) (vs := [.int .i64 t7_8]) (by kernel_rfl) (res_tmp (by kernel_rfl) res_nil) (by kernel_rfl)
noncomputable def internal_stringslite_IndexByte_fn (call : CallF) (n : Nat) : FnT := fun args h => match args with
  | [x0, x1] => obind (avStr x0) fun t0 => obind (avInt .u8 x1) fun t1 => internal_stringslite_IndexByte call n t0 t1 h
  | _ => none
set_option maxRecDepth 100000 in
theorem internal_stringslite_IndexByte_fn_eq (call : CallF) (n : Nat) (t0 : Bytes) (t1 : Int) (h : AHeap) : internal_stringslite_IndexByte_fn call n [strA t0, .int .u8 t1] h = internal_stringslite_IndexByte call n t0 t1 h :=
  (Eq.trans (obind_eq (fun t0 => obind (avInt .u8 (.int .u8 t1)) fun t1 => internal_stringslite_IndexByte call n t0 t1 h) (avStr_str t0)) (Eq.trans (obind_eq (fun t1 => internal_stringslite_IndexByte call n t0 t1 h) (avInt_int .u8 t1)) rfl))
theorem internal_stringslite_IndexByte_holds {call : CallF} (hc : SaysAll Try.prog call) (n : Nat) : Holds Try.prog 90 (internal_stringslite_IndexByte_fn call n) := by
  intro args h r h2 e
  unfold internal_stringslite_IndexByte_fn at e
  split at e
  · replace e := obind_some e; obtain ⟨t0, c0, e⟩ := e; have c0 := avStr_some c0; subst c0
    replace e := obind_some e; obtain ⟨t1, c1, e⟩ := e; have c1 := avInt_some c1; subst c1
    exact internal_stringslite_IndexByte_ok hc e
  · cases e

end Go.Proofs.Ytijhmmimffgjiaa
