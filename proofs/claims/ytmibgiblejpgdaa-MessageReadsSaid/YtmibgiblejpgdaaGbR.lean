/- Plain functions in place of the program's, and that their calls come to what they say. -/
import Derived.Test.YtmibgiblejpgdaaFrame
import Derived.Test.YtmibgiblejpgdaaAbs50
namespace Go.Proofs.Ytmibgiblejpgdaa
open Go.RowKit Abs

noncomputable def law17_MessageReads (call : CallF) (_ : Nat) (t0 : Bytes) (h : AHeap) : R :=
  callN (call 8 [] h) fun r8 h_4 =>
  obind (avBool r8) fun t8 =>
  lett (!t8) fun (t9 : Bool) =>
  ifB t9
  (
    some (.ret (.bool false), h_4))
  (
    lett (decide ((lenS t0) > 16384)) fun (t12 : Bool) =>
    ifB t12
    (
      some (.ret (.bool true), h_4))
    (
      callN (call 11 [strA t0] h_4) fun r15 h_14 =>
      obind (extT 0 r15) fun v16 =>
      obind (avAgg v16) fun t16 =>
      obind (extT 1 r15) fun v17 =>
      obind (avAgg v17) fun t17 =>
      lett (newH h_14 30 [.int .u8 0, .int .i64 0, .int .i64 0, .int .i64 0, .int .i64 0, .int .i64 0, .int .i64 0, .int .i64 0, .bool false, .nsl, .int .i64 0, .int .i64 0, .str 0 0, .int .i64 0, .int .i64 0, .int .i64 0, .int .i64 0, .int .i64 0, .int .i64 0, .int .u8 0, .int .i64 0, .int .i64 0]) fun h_20 =>
      lett (newH h_20 33 [.int .i64 0, .int .i64 0]) fun h_22 =>
      obind (stRow h_22 22 t16 (newP h_14)) fun h_24 =>
      obind (stRow h_24 2 t17 (newP h_20)) fun h_26 =>
      callN (call 19 [strA t0] h_26) fun r20 h_29 =>
      obind (extT 0 r20) fun v21 =>
      obind (avAgg v21) fun t21 =>
      obind (extT 1 r20) fun v22 =>
      obind (avInt .i64 v22) fun t22 =>
      obind (extT 2 r20) fun v23 =>
      obind (avInt .i64 v23) fun t23 =>
      lett (newH h_29 30 [.int .u8 0, .int .i64 0, .int .i64 0, .int .i64 0, .int .i64 0, .int .i64 0, .int .i64 0, .int .i64 0, .bool false, .nsl, .int .i64 0, .int .i64 0, .str 0 0, .int .i64 0, .int .i64 0, .int .i64 0, .int .i64 0, .int .i64 0, .int .i64 0, .int .u8 0, .int .i64 0, .int .i64 0]) fun h_37 =>
      obind (stRow h_37 22 t21 (newP h_29)) fun h_39 =>
      obind (ldRow h_39 22 (newP h_14)) fun t24 =>
      obind (ldRow h_39 22 (newP h_29)) fun t25 =>
      callN (call 17 [.agg t24, .agg t25] h_39) fun r26 h_44 =>
      obind (avBool r26) fun t26 =>
      lett (fun (t33 : Bool) (h_47 : AHeap) =>
        some (.ret (.bool t33), h_47)) fun j33 =>
      ifB t26
      (
        obind (ldRow h_44 2 (newP h_20)) fun t28 =>
        obind (eqOther Try.prog 33 (.agg t28) (.agg ([.int .i64 t22, .int .i64 t23] : List AV))) fun t32 =>
        j33 t32 h_44)
      (
        j33 false h_44)))
set_option maxHeartbeats 4000000 in
set_option maxRecDepth 20000 in
theorem law17_MessageReads_ok {call : CallF} (hc : SaysAll Try.prog call) {n : Nat} {t0 : Bytes} {h : AHeap} {rR : ARes} {hR : AHeap} (hF : law17_MessageReads call n t0 h = some (rR, hR)) : Says Try.prog 5 [strA t0] h rR hR := by
  unfold law17_MessageReads at hF
  refine says_of (fn := Try.f5) Try.func5 (c := codeOf Try.f5) (by kernel_rfl) (by kernel_rfl) (fun w0 m0 => ?_)
  refine W.weaken (l' := [(0, strA t0)]) (Fr.c Fr.n) ?_
  refine W.s (fun K1 n1 e1 q1 p1 => ?_)
  refine W.r ?_
  refine WL.a (some 2) (.bool false) h ?_
  refine WL.n ?_
  refine Go.weaken (l' := [(0, strA t0)]) (Fr.c Fr.n) ?_
  refine n1 ?_
  refine W.s (fun K2 n2 e2 q2 p2 => ?_)
  refine W.s (fun K3 n3 e3 q3 p3 => ?_)
  refine W.r ?_
  replace hF := callN_some hF; obtain ⟨r8, h_4, e5, hF⟩ := hF
  replace hF := obind_some hF; obtain ⟨t8, c6, hF⟩ := hF
  have c6 := avBool_some c6
  subst c6
  refine WL.c (hc.ok w0) (some 8) e5 ?_
  replace hF := lett_some hF; obtain ⟨t9, e7, hF⟩ := hF
  refine WL.val (d := (some 9)) (v := .bool t9) (h' := h_4) (by kernel_rfl) (by kernel_rfl) (val_of AV.bool e7 (by kernel_rfl)) ?_
  refine WL.n ?_
  refine Go.weaken (l' := [(0, strA t0), (9, .bool t9)]) (Fr.c (Fr.c Fr.n)) ?_
  refine n3 ?_
  cases t9 with
  | true =>
    replace hF := ifB_t hF
    refine W.t ?_
    refine W.s (fun K8 n8 e8 q8 p8 => ?_)
    refine W.r ?_
    refine WL.a (some 2) (.bool false) h_4 ?_
    refine WL.n ?_
    refine Go.weaken (l' := [(2, .bool false)]) (Fr.c Fr.n) ?_
    refine n8 ?_
    refine W.ret (by kernel_rfl) ?_
    refine q2 ?_
    obtain ⟨hF, hF2⟩ := ret_inj hF; subst hF; subst hF2
    exact leave_of (rs := [.tmp 2]) (vs := [.bool false]) (by kernel_rfl) (res_tmp (by kernel_rfl) res_nil) (by kernel_rfl)
  | false =>
    replace hF := ifB_f hF
    refine W.f ?_
    refine W.skip (by kernel_rfl) ?_
    refine n2 ?_
    refine W.s (fun K9 n9 e9 q9 p9 => ?_)
    refine W.s (fun K10 n10 e10 q10 p10 => ?_)
    refine W.r ?_
    refine WL.a (some 10) (strA t0) h_4 ?_
    refine WL.a (some 11) (.int .i64 (lenS t0)) h_4 ?_
    replace hF := lett_some hF; obtain ⟨t12, e11, hF⟩ := hF
    refine WL.val (d := (some 12)) (v := .bool t12) (h' := h_4) (by kernel_rfl) (by kernel_rfl) (val_of AV.bool e11 (by kernel_rfl)) ?_
    refine WL.n ?_
    refine Go.weaken (l' := [(0, strA t0), (12, .bool t12)]) (Fr.c (Fr.c Fr.n)) ?_
    refine n10 ?_
    cases t12 with
    | true =>
      replace hF := ifB_t hF
      refine W.t ?_
      refine W.s (fun K12 n12 e12 q12 p12 => ?_)
      refine W.r ?_
      refine WL.a (some 2) (.bool true) h_4 ?_
      refine WL.n ?_
      refine Go.weaken (l' := [(2, .bool true)]) (Fr.c Fr.n) ?_
      refine n12 ?_
      refine W.ret (by kernel_rfl) ?_
      refine q9 ?_
      obtain ⟨hF, hF2⟩ := ret_inj hF; subst hF; subst hF2
      exact leave_of (rs := [.tmp 2]) (vs := [.bool true]) (by kernel_rfl) (res_tmp (by kernel_rfl) res_nil) (by kernel_rfl)
    | false =>
      replace hF := ifB_f hF
      refine W.f ?_
      refine W.skip (by kernel_rfl) ?_
      refine n9 ?_
      refine W.s (fun K13 n13 e13 q13 p13 => ?_)
      refine W.r ?_
      refine WL.a (some 14) (strA t0) h_4 ?_
      replace hF := callN_some hF; obtain ⟨r15, h_14, e15, hF⟩ := hF
      refine WL.c (hc.ok w0) (some 15) e15 ?_
      refine WL.a (some 13) r15 h_14 ?_
      replace hF := obind_some hF; obtain ⟨v16, e16, hF⟩ := hF
      replace hF := obind_some hF; obtain ⟨t16, c17, hF⟩ := hF
      have c17 := avAgg_some c17
      subst c17
      refine WL.b (some 16) (.agg t16) h_14 (extract_tup (h := h_14) e16) ?_
      replace hF := obind_some hF; obtain ⟨v17, e18, hF⟩ := hF
      replace hF := obind_some hF; obtain ⟨t17, c19, hF⟩ := hF
      have c19 := avAgg_some c19
      subst c19
      refine WL.b (some 17) (.agg t17) h_14 (extract_tup (h := h_14) e18) ?_
      replace hF := lett_some hF; obtain ⟨h_20, e21, hF⟩ := hF
      refine WL.val (d := (some 3)) (v := (newP h_14)) (h' := h_20) (by kernel_rfl) (by kernel_rfl) (val_ofH e21 (by kernel_rfl)) ?_
      replace hF := lett_some hF; obtain ⟨h_22, e23, hF⟩ := hF
      refine WL.val (d := (some 4)) (v := (newP h_20)) (h' := h_22) (by kernel_rfl) (by kernel_rfl) (val_ofH e23 (by kernel_rfl)) ?_
      replace hF := obind_some hF; obtain ⟨h_24, e25, hF⟩ := hF
      refine WL.e h_24 (store_row (P := Try.prog) (h := h_22) (t := 30) (v := (.agg t16)) (by kernel_rfl) (by kernel_rfl) e25) ?_
      replace hF := obind_some hF; obtain ⟨h_26, e27, hF⟩ := hF
      refine WL.e h_26 (store_row (P := Try.prog) (h := h_24) (t := 33) (v := (.agg t17)) (by kernel_rfl) (by kernel_rfl) e27) ?_
      refine WL.n ?_
      refine Go.weaken (l' := [(0, strA t0), (3, (newP h_14)), (4, (newP h_20))]) (Fr.c (Fr.c (Fr.c Fr.n))) ?_
      refine n13 ?_
      refine W.s (fun K28 n28 e28 q28 p28 => ?_)
      refine W.r ?_
      refine WL.a (some 19) (strA t0) h_26 ?_
      replace hF := callN_some hF; obtain ⟨r20, h_29, e30, hF⟩ := hF
      refine WL.c (hc.ok w0) (some 20) e30 ?_
      refine WL.a (some 18) r20 h_29 ?_
      replace hF := obind_some hF; obtain ⟨v21, e31, hF⟩ := hF
      replace hF := obind_some hF; obtain ⟨t21, c32, hF⟩ := hF
      have c32 := avAgg_some c32
      subst c32
      refine WL.b (some 21) (.agg t21) h_29 (extract_tup (h := h_29) e31) ?_
      replace hF := obind_some hF; obtain ⟨v22, e33, hF⟩ := hF
      replace hF := obind_some hF; obtain ⟨t22, c34, hF⟩ := hF
      have c34 := avInt_some c34
      subst c34
      refine WL.b (some 22) (.int .i64 t22) h_29 (extract_tup (h := h_29) e33) ?_
      replace hF := obind_some hF; obtain ⟨v23, e35, hF⟩ := hF
      replace hF := obind_some hF; obtain ⟨t23, c36, hF⟩ := hF
      have c36 := avInt_some c36
      subst c36
      refine WL.b (some 23) (.int .i64 t23) h_29 (extract_tup (h := h_29) e35) ?_
      replace hF := lett_some hF; obtain ⟨h_37, e38, hF⟩ := hF
      refine WL.val (d := (some 5)) (v := (newP h_29)) (h' := h_37) (by kernel_rfl) (by kernel_rfl) (val_ofH e38 (by kernel_rfl)) ?_
      replace hF := obind_some hF; obtain ⟨h_39, e40, hF⟩ := hF
      refine WL.e h_39 (store_row (P := Try.prog) (h := h_37) (t := 30) (v := (.agg t21)) (by kernel_rfl) (by kernel_rfl) e40) ?_
      refine WL.a (some 6) (.int .i64 t22) h_39 ?_
      refine WL.a (some 7) (.int .i64 t23) h_39 ?_
      refine WL.n ?_
      refine Go.weaken (l' := [(3, (newP h_14)), (4, (newP h_20)), (5, (newP h_29)), (6, .int .i64 t22), (7, .int .i64 t23)]) (Fr.c (Fr.c (Fr.c (Fr.c (Fr.c Fr.n))))) ?_
      refine n28 ?_
      refine W.s (fun K41 n41 e41 q41 p41 => ?_)
      refine W.r ?_
      replace hF := obind_some hF; obtain ⟨t24, e42, hF⟩ := hF
      refine WL.b (some 24) (.agg t24) h_39 (load_row (P := Try.prog) (h := h_39) (t := 30) (by kernel_rfl) (by kernel_rfl) e42) ?_
      replace hF := obind_some hF; obtain ⟨t25, e43, hF⟩ := hF
      refine WL.b (some 25) (.agg t25) h_39 (load_row (P := Try.prog) (h := h_39) (t := 30) (by kernel_rfl) (by kernel_rfl) e43) ?_
      replace hF := callN_some hF; obtain ⟨r26, h_44, e45, hF⟩ := hF
      replace hF := obind_some hF; obtain ⟨t26, c46, hF⟩ := hF
      have c46 := avBool_some c46
      subst c46
      refine WL.c (hc.ok w0) (some 26) e45 ?_
      refine WL.a (some 27) (.bool t26) h_44 ?_
      replace hF := lett_some hF; obtain ⟨j33, e48, hF⟩ := hF
      have J49 : ∀ (t33 : Bool) (h_47 : AHeap), j33 t33 h_47 = some (rR, hR) → WL Try.prog w0 m0 (Func.ntmps Try.f5) (Code.ops (Code.p1 (Code.p2 (Code.p2 (Code.p2 (Code.p2 (Code.p2 (codeOf Try.f5)))))))) 10 K41 [(33, .bool t33)] [] h_47 := by
        intro t33 h_47 hF
        rw [e48] at hF
        refine WL.a (some 2) (.bool t33) h_47 ?_
        refine WL.n ?_
        refine Go.weaken (l' := [(2, .bool t33)]) (Fr.c Fr.n) ?_
        refine n41 ?_
        refine W.ret (by kernel_rfl) ?_
        obtain ⟨hF, hF2⟩ := ret_inj hF; subst hF; subst hF2
        exact leave_of (rs := [.tmp 2]) (vs := [.bool t33]) (by kernel_rfl) (res_tmp (by kernel_rfl) res_nil) (by kernel_rfl)
      cases t26 with
      | true =>
        replace hF := ifB_t hF
        replace hF := obind_some hF; obtain ⟨t28, e50, hF⟩ := hF
        refine WL.b (some 28) (.agg t28) h_44 (load_row (P := Try.prog) (h := h_44) (t := 33) (by kernel_rfl) (by kernel_rfl) e50) ?_
        refine WL.a (some 29) (.int .i64 t22) h_44 ?_
        refine WL.a (some 30) (.int .i64 t23) h_44 ?_
        refine WL.a (some 31) (.agg ([.int .i64 t22, .int .i64 t23] : List AV)) h_44 ?_
        replace hF := obind_some hF; obtain ⟨t32, e51, hF⟩ := hF
        refine WL.b (some 32) (.bool t32) h_44 (eq_other (P := Try.prog) (h := h_44) (t := 33) (lit := false) (by kernel_rfl) e51) ?_
        refine WL.a (some 33) (.bool t32) h_44 ?_
        exact WL.weaken (Fr.c Fr.n) (J49 _ _ hF)
      | false =>
        replace hF := ifB_f hF
        refine WL.o (some 28) ?_
        refine WL.o (some 29) ?_
        refine WL.o (some 30) ?_
        refine WL.o (some 31) ?_
        refine WL.o (some 32) ?_
        refine WL.a (some 33) (.bool false) h_44 ?_
        exact WL.weaken (Fr.c Fr.n) (J49 _ _ hF)
noncomputable def law17_MessageReads_fn (call : CallF) (n : Nat) : FnT := fun args h => match args with
  | [x0] => obind (avStr x0) fun t0 => law17_MessageReads call n t0 h
  | _ => none
set_option maxRecDepth 100000 in
theorem law17_MessageReads_fn_eq (call : CallF) (n : Nat) (t0 : Bytes) (h : AHeap) : law17_MessageReads_fn call n [strA t0] h = law17_MessageReads call n t0 h :=
  (Eq.trans (obind_eq (fun t0 => law17_MessageReads call n t0 h) (avStr_str t0)) rfl)
theorem law17_MessageReads_holds {call : CallF} (hc : SaysAll Try.prog call) (n : Nat) : Holds Try.prog 5 (law17_MessageReads_fn call n) := by
  intro args h r h2 e
  unfold law17_MessageReads_fn at e
  split at e
  · replace e := obind_some e; obtain ⟨t0, c0, e⟩ := e; have c0 := avStr_some c0; subst c0
    exact law17_MessageReads_ok hc e
  · cases e

end Go.Proofs.Ytmibgiblejpgdaa
