/- Plain functions in place of the program's, and that their calls come to what they say. -/
import Derived.Test.YtjnnfdfalcdeoaaDoorFrame
import Derived.Test.YtjnnfdfalcdeoaaDoorAbs25
namespace Go.Proofs.YtjnnfdfalcdeoaaDoor
open Go.RowKit Abs

noncomputable def law11_MatchKeeps (call : CallF) (_ : Nat) (t0 : Bytes) (t1 : Bytes) (h : AHeap) : R :=
  callN (call 12 [] h) fun r5 h_4 =>
  obind (avBool r5) fun t5 =>
  lett (!t5) fun (t6 : Bool) =>
  ifB t6
  (
    some (.ret (.bool false), h_4))
  (
    lett (IntKind.i64.wrap ((lenS t0) + (lenS t1))) fun (t11 : Int) =>
    lett (decide (t11 > 1048576)) fun (t12 : Bool) =>
    ifB t12
    (
      some (.ret (.bool true), h_4))
    (
      callN (call 24 [strA t0] h_4) fun r14 h_15 =>
      obind (avStr r14) fun t14 =>
      callN (call 27 [strA t0] h_15) fun r16 h_18 =>
      obind (avStr r16) fun t16 =>
      lett (eqS t14 t16) fun (t17 : Bool) =>
      lett (fun (t29 : Bool) (h_22 : AHeap) =>
        some (.ret (.bool t29), h_22)) fun j29 =>
      ifB t17
      (
        callN (call 24 [strA t0] h_18) fun r20 h_25 =>
        obind (avStr r20) fun t20 =>
        obind (addS t20 t1) fun t22 =>
        callN (call 24 [strA t22] h_25) fun r23 h_29 =>
        obind (avStr r23) fun t23 =>
        obind (addS t0 t1) fun t26 =>
        callN (call 24 [strA t26] h_29) fun r27 h_33 =>
        obind (avStr r27) fun t27 =>
        lett (eqS t23 t27) fun (t28 : Bool) =>
        j29 t28 h_33)
      (
        j29 false h_18)))
set_option maxHeartbeats 4000000 in
set_option maxRecDepth 20000 in
theorem law11_MatchKeeps_ok {call : CallF} (hc : SaysAll Tryd.prog call) {n : Nat} {t0 : Bytes} {t1 : Bytes} {h : AHeap} {rR : ARes} {hR : AHeap} (hF : law11_MatchKeeps call n t0 t1 h = some (rR, hR)) : Says Tryd.prog 9 [strA t0, strA t1] h rR hR := by
  unfold law11_MatchKeeps at hF
  refine says_of (fn := Tryd.f9) Tryd.func9 (c := codeOf Tryd.f9) (by kernel_rfl) (by kernel_rfl) (fun w0 m0 => ?_)
  refine W.weaken (l' := [(0, strA t0), (1, strA t1)]) (Fr.sub_cons (by kernel_rfl) (Fr.sub_cons (by kernel_rfl) (Fr.sub_nil _))) ?_
  refine W.seqK (by kernel_rfl) (fun K1 n1 e1 r1 p1 => ?_)
  refine W.region (by kernel_rfl) ?_
  refine WL.val (d := (some 4)) (v := .bool false) (h' := h) (by kernel_rfl) (by kernel_rfl) (by kernel_rfl) ?_
  refine WL.nil (by kernel_rfl) ?_
  refine Go.weaken (l' := [(0, strA t0), (1, strA t1)]) (Fr.sub_cons (by kernel_rfl) (Fr.sub_cons (by kernel_rfl) (Fr.sub_nil _))) ?_
  refine n1 ?_
  refine W.seqK (by kernel_rfl) (fun K2 n2 e2 r2 p2 => ?_)
  refine W.seqK (by kernel_rfl) (fun K3 n3 e3 r3 p3 => ?_)
  refine W.region (by kernel_rfl) ?_
  replace hF := callN_some hF; obtain ⟨r5, h_4, e5, hF⟩ := hF
  replace hF := obind_some hF; obtain ⟨t5, c6, hF⟩ := hF
  have c6 := avBool_some c6
  subst c6
  refine WL.call (hc.ok w0) (d := (some 5)) (by kernel_rfl) (by kernel_rfl) (by kernel_rfl) e5 ?_
  replace hF := lett_some hF; obtain ⟨t6, e7, hF⟩ := hF
  refine WL.val (d := (some 6)) (v := .bool t6) (h' := h_4) (by kernel_rfl) (by kernel_rfl) (val_of AV.bool e7 (by kernel_rfl)) ?_
  refine WL.nil (by kernel_rfl) ?_
  refine Go.weaken (l' := [(0, strA t0), (1, strA t1), (6, .bool t6)]) (Fr.sub_cons (by kernel_rfl) (Fr.sub_cons (by kernel_rfl) (Fr.sub_cons (by kernel_rfl) (Fr.sub_nil _)))) ?_
  refine n3 ?_
  cases t6 with
  | true =>
    replace hF := ifB_t hF
    refine W.cond_true (by kernel_rfl) (by kernel_rfl) ?_
    refine W.seqK (by kernel_rfl) (fun K8 n8 e8 r8 p8 => ?_)
    refine W.region (by kernel_rfl) ?_
    refine WL.val (d := (some 4)) (v := .bool false) (h' := h_4) (by kernel_rfl) (by kernel_rfl) (by kernel_rfl) ?_
    refine WL.nil (by kernel_rfl) ?_
    refine Go.weaken (l' := [(4, .bool false)]) (Fr.sub_cons (by kernel_rfl) (Fr.sub_nil _)) ?_
    refine n8 ?_
    refine W.ret (by kernel_rfl) ?_
    refine r2 ?_
    obtain ⟨hF, hF2⟩ := ret_inj hF; subst hF; subst hF2
    exact leave_of (rs := [.tmp 4]) (vs := [.bool false]) (by kernel_rfl) (res_tmp (by kernel_rfl) res_nil) (by kernel_rfl)
  | false =>
    replace hF := ifB_f hF
    refine W.cond_false (by kernel_rfl) (by kernel_rfl) ?_
    refine W.skip (by kernel_rfl) ?_
    refine n2 ?_
    refine W.seqK (by kernel_rfl) (fun K9 n9 e9 r9 p9 => ?_)
    refine W.seqK (by kernel_rfl) (fun K10 n10 e10 r10 p10 => ?_)
    refine W.region (by kernel_rfl) ?_
    refine WL.val (d := (some 7)) (v := strA t0) (h' := h_4) (by kernel_rfl) (by kernel_rfl) (by kernel_rfl) ?_
    refine WL.val (d := (some 8)) (v := .int .i64 (lenS t0)) (h' := h_4) (by kernel_rfl) (by kernel_rfl) (by kernel_rfl) ?_
    refine WL.val (d := (some 9)) (v := strA t1) (h' := h_4) (by kernel_rfl) (by kernel_rfl) (by kernel_rfl) ?_
    refine WL.val (d := (some 10)) (v := .int .i64 (lenS t1)) (h' := h_4) (by kernel_rfl) (by kernel_rfl) (by kernel_rfl) ?_
    replace hF := lett_some hF; obtain ⟨t11, e11, hF⟩ := hF
    refine WL.val (d := (some 11)) (v := .int .i64 t11) (h' := h_4) (by kernel_rfl) (by kernel_rfl) (val_of (AV.int .i64) e11 (by kernel_rfl)) ?_
    replace hF := lett_some hF; obtain ⟨t12, e12, hF⟩ := hF
    refine WL.val (d := (some 12)) (v := .bool t12) (h' := h_4) (by kernel_rfl) (by kernel_rfl) (val_of AV.bool e12 (by kernel_rfl)) ?_
    refine WL.nil (by kernel_rfl) ?_
    refine Go.weaken (l' := [(0, strA t0), (1, strA t1), (12, .bool t12)]) (Fr.sub_cons (by kernel_rfl) (Fr.sub_cons (by kernel_rfl) (Fr.sub_cons (by kernel_rfl) (Fr.sub_nil _)))) ?_
    refine n10 ?_
    cases t12 with
    | true =>
      replace hF := ifB_t hF
      refine W.cond_true (by kernel_rfl) (by kernel_rfl) ?_
      refine W.seqK (by kernel_rfl) (fun K13 n13 e13 r13 p13 => ?_)
      refine W.region (by kernel_rfl) ?_
      refine WL.val (d := (some 4)) (v := .bool true) (h' := h_4) (by kernel_rfl) (by kernel_rfl) (by kernel_rfl) ?_
      refine WL.nil (by kernel_rfl) ?_
      refine Go.weaken (l' := [(4, .bool true)]) (Fr.sub_cons (by kernel_rfl) (Fr.sub_nil _)) ?_
      refine n13 ?_
      refine W.ret (by kernel_rfl) ?_
      refine r9 ?_
      obtain ⟨hF, hF2⟩ := ret_inj hF; subst hF; subst hF2
      exact leave_of (rs := [.tmp 4]) (vs := [.bool true]) (by kernel_rfl) (res_tmp (by kernel_rfl) res_nil) (by kernel_rfl)
    | false =>
      replace hF := ifB_f hF
      refine W.cond_false (by kernel_rfl) (by kernel_rfl) ?_
      refine W.skip (by kernel_rfl) ?_
      refine n9 ?_
      refine W.seqK (by kernel_rfl) (fun K14 n14 e14 r14 p14 => ?_)
      refine W.region (by kernel_rfl) ?_
      refine WL.val (d := (some 13)) (v := strA t0) (h' := h_4) (by kernel_rfl) (by kernel_rfl) (by kernel_rfl) ?_
      replace hF := callN_some hF; obtain ⟨r14, h_15, e16, hF⟩ := hF
      replace hF := obind_some hF; obtain ⟨t14, c17, hF⟩ := hF
      have c17 := avStr_some c17
      subst c17
      refine WL.call (hc.ok w0) (d := (some 14)) (by kernel_rfl) (by kernel_rfl) (by kernel_rfl) e16 ?_
      refine WL.val (d := (some 15)) (v := strA t0) (h' := h_15) (by kernel_rfl) (by kernel_rfl) (by kernel_rfl) ?_
      replace hF := callN_some hF; obtain ⟨r16, h_18, e19, hF⟩ := hF
      replace hF := obind_some hF; obtain ⟨t16, c20, hF⟩ := hF
      have c20 := avStr_some c20
      subst c20
      refine WL.call (hc.ok w0) (d := (some 16)) (by kernel_rfl) (by kernel_rfl) (by kernel_rfl) e19 ?_
      replace hF := lett_some hF; obtain ⟨t17, e21, hF⟩ := hF
      refine WL.val (d := (some 17)) (v := .bool t17) (h' := h_18) (by kernel_rfl) (by kernel_rfl) (val_of AV.bool e21 (by kernel_rfl)) ?_
      refine WL.val (d := (some 18)) (v := .bool t17) (h' := h_18) (by kernel_rfl) (by kernel_rfl) (by kernel_rfl) ?_
      replace hF := lett_some hF; obtain ⟨j29, e23, hF⟩ := hF
      have J24 : ∀ (t29 : Bool) (h_22 : AHeap), j29 t29 h_22 = some (rR, hR) → WL Tryd.prog w0 m0 (Func.ntmps Tryd.f9) (Code.ops (Code.p1 (Code.p2 (Code.p2 (Code.p2 (codeOf Tryd.f9)))))) 17 K14 [(29, .bool t29)] [] h_22 := by
        intro t29 h_22 hF
        rw [e23] at hF
        refine WL.val (d := (some 4)) (v := .bool t29) (h' := h_22) (by kernel_rfl) (by kernel_rfl) (by kernel_rfl) ?_
        refine WL.nil (by kernel_rfl) ?_
        refine Go.weaken (l' := [(4, .bool t29)]) (Fr.sub_cons (by kernel_rfl) (Fr.sub_nil _)) ?_
        refine n14 ?_
        refine W.ret (by kernel_rfl) ?_
        obtain ⟨hF, hF2⟩ := ret_inj hF; subst hF; subst hF2
        exact leave_of (rs := [.tmp 4]) (vs := [.bool t29]) (by kernel_rfl) (res_tmp (by kernel_rfl) res_nil) (by kernel_rfl)
      cases t17 with
      | true =>
        replace hF := ifB_t hF
        refine WL.val (d := (some 19)) (v := strA t0) (h' := h_18) (by kernel_rfl) (by kernel_rfl) (by kernel_rfl) ?_
        replace hF := callN_some hF; obtain ⟨r20, h_25, e26, hF⟩ := hF
        replace hF := obind_some hF; obtain ⟨t20, c27, hF⟩ := hF
        have c27 := avStr_some c27
        subst c27
        refine WL.call (hc.ok w0) (d := (some 20)) (by kernel_rfl) (by kernel_rfl) (by kernel_rfl) e26 ?_
        refine WL.val (d := (some 21)) (v := strA t1) (h' := h_25) (by kernel_rfl) (by kernel_rfl) (by kernel_rfl) ?_
        replace hF := obind_some hF; obtain ⟨t22, e28, hF⟩ := hF
        refine WL.val (d := (some 22)) (v := strA t22) (h' := h_25) (by kernel_rfl) (by kernel_rfl) (Eq.trans (by kernel_rfl) (add_str (P := Tryd.prog) (h := h_25) (t := 9) (lit := false) e28)) ?_
        replace hF := callN_some hF; obtain ⟨r23, h_29, e30, hF⟩ := hF
        replace hF := obind_some hF; obtain ⟨t23, c31, hF⟩ := hF
        have c31 := avStr_some c31
        subst c31
        refine WL.call (hc.ok w0) (d := (some 23)) (by kernel_rfl) (by kernel_rfl) (by kernel_rfl) e30 ?_
        refine WL.val (d := (some 24)) (v := strA t0) (h' := h_29) (by kernel_rfl) (by kernel_rfl) (by kernel_rfl) ?_
        refine WL.val (d := (some 25)) (v := strA t1) (h' := h_29) (by kernel_rfl) (by kernel_rfl) (by kernel_rfl) ?_
        replace hF := obind_some hF; obtain ⟨t26, e32, hF⟩ := hF
        refine WL.val (d := (some 26)) (v := strA t26) (h' := h_29) (by kernel_rfl) (by kernel_rfl) (Eq.trans (by kernel_rfl) (add_str (P := Tryd.prog) (h := h_29) (t := 9) (lit := false) e32)) ?_
        replace hF := callN_some hF; obtain ⟨r27, h_33, e34, hF⟩ := hF
        replace hF := obind_some hF; obtain ⟨t27, c35, hF⟩ := hF
        have c35 := avStr_some c35
        subst c35
        refine WL.call (hc.ok w0) (d := (some 27)) (by kernel_rfl) (by kernel_rfl) (by kernel_rfl) e34 ?_
        replace hF := lett_some hF; obtain ⟨t28, e36, hF⟩ := hF
        refine WL.val (d := (some 28)) (v := .bool t28) (h' := h_33) (by kernel_rfl) (by kernel_rfl) (val_of AV.bool e36 (by kernel_rfl)) ?_
        refine WL.val (d := (some 29)) (v := .bool t28) (h' := h_33) (by kernel_rfl) (by kernel_rfl) (by kernel_rfl) ?_
        exact WL.weaken (Fr.sub_cons (by kernel_rfl) (Fr.sub_nil _)) (J24 _ _ hF)
      | false =>
        replace hF := ifB_f hF
        refine WL.not (d := (some 19)) (by kernel_rfl) (by kernel_rfl) ?_
        refine WL.not (d := (some 20)) (by kernel_rfl) (by kernel_rfl) ?_
        refine WL.not (d := (some 21)) (by kernel_rfl) (by kernel_rfl) ?_
        refine WL.not (d := (some 22)) (by kernel_rfl) (by kernel_rfl) ?_
        refine WL.not (d := (some 23)) (by kernel_rfl) (by kernel_rfl) ?_
        refine WL.not (d := (some 24)) (by kernel_rfl) (by kernel_rfl) ?_
        refine WL.not (d := (some 25)) (by kernel_rfl) (by kernel_rfl) ?_
        refine WL.not (d := (some 26)) (by kernel_rfl) (by kernel_rfl) ?_
        refine WL.not (d := (some 27)) (by kernel_rfl) (by kernel_rfl) ?_
        refine WL.not (d := (some 28)) (by kernel_rfl) (by kernel_rfl) ?_
        refine WL.val (d := (some 29)) (v := .bool false) (h' := h_18) (by kernel_rfl) (by kernel_rfl) (by kernel_rfl) ?_
        exact WL.weaken (Fr.sub_cons (by kernel_rfl) (Fr.sub_nil _)) (J24 _ _ hF)
noncomputable def law11_MatchKeeps_fn (call : CallF) (n : Nat) : FnT := fun args h => match args with
  | [x0, x1] => obind (avStr x0) fun t0 => obind (avStr x1) fun t1 => law11_MatchKeeps call n t0 t1 h
  | _ => none
theorem law11_MatchKeeps_fn_eq (call : CallF) (n : Nat) (t0 : Bytes) (t1 : Bytes) (h : AHeap) : law11_MatchKeeps_fn call n [strA t0, strA t1] h = law11_MatchKeeps call n t0 t1 h :=
  (Eq.trans (obind_eq (fun t0 => obind (avStr (strA t1)) fun t1 => law11_MatchKeeps call n t0 t1 h) (avStr_str t0)) (Eq.trans (obind_eq (fun t1 => law11_MatchKeeps call n t0 t1 h) (avStr_str t1)) rfl))
theorem law11_MatchKeeps_holds {call : CallF} (hc : SaysAll Tryd.prog call) (n : Nat) : Holds Tryd.prog 9 (law11_MatchKeeps_fn call n) := by
  intro args h r h2 e
  unfold law11_MatchKeeps_fn at e
  split at e
  · replace e := obind_some e; obtain ⟨t0, c0, e⟩ := e; have c0 := avStr_some c0; subst c0
    replace e := obind_some e; obtain ⟨t1, c1, e⟩ := e; have c1 := avStr_some c1; subst c1
    exact law11_MatchKeeps_ok hc e
  · cases e

noncomputable def match_Keep (_ : CallF) (_ : Nat) (t0 : Bytes) (h : AHeap) : R :=
  lett (IntKind.i64.wrap ((lenS t0) - 256)) fun (t6 : Int) =>
  lett (if t6 > 0 then t6 else 0) fun (t7 : Int) =>
  obind (sliceS t0 t7 (lenS t0)) fun t8 =>
  some (.ret (strA t8), h)
set_option maxHeartbeats 4000000 in
set_option maxRecDepth 20000 in
theorem match_Keep_ok {call : CallF} (_ : SaysAll Tryd.prog call) {n : Nat} {t0 : Bytes} {h : AHeap} {rR : ARes} {hR : AHeap} (hF : match_Keep call n t0 h = some (rR, hR)) : Says Tryd.prog 24 [strA t0] h rR hR := by
  unfold match_Keep at hF
  refine says_of (fn := Tryd.f24) Tryd.func24 (c := codeOf Tryd.f24) (by kernel_rfl) (by kernel_rfl) (fun w0 m0 => ?_)
  refine W.weaken (l' := [(0, strA t0)]) (Fr.sub_cons (by kernel_rfl) (Fr.sub_nil _)) ?_
  refine W.seqK (by kernel_rfl) (fun K1 n1 e1 r1 p1 => ?_)
  refine W.region (by kernel_rfl) ?_
  refine WL.val (d := (some 2)) (v := strA ([] : Bytes)) (h' := h) (by kernel_rfl) (by kernel_rfl) (by kernel_rfl) ?_
  refine WL.nil (by kernel_rfl) ?_
  refine Go.weaken (l' := [(0, strA t0)]) (Fr.sub_cons (by kernel_rfl) (Fr.sub_nil _)) ?_
  refine n1 ?_
  refine W.seqK (by kernel_rfl) (fun K2 n2 e2 r2 p2 => ?_)
  refine W.region (by kernel_rfl) ?_
  refine WL.val (d := (some 3)) (v := strA t0) (h' := h) (by kernel_rfl) (by kernel_rfl) (by kernel_rfl) ?_
  refine WL.val (d := (some 4)) (v := strA t0) (h' := h) (by kernel_rfl) (by kernel_rfl) (by kernel_rfl) ?_
  refine WL.val (d := (some 5)) (v := .int .i64 (lenS t0)) (h' := h) (by kernel_rfl) (by kernel_rfl) (by kernel_rfl) ?_
  replace hF := lett_some hF; obtain ⟨t6, e3, hF⟩ := hF
  refine WL.val (d := (some 6)) (v := .int .i64 t6) (h' := h) (by kernel_rfl) (by kernel_rfl) (val_of (AV.int .i64) e3 (by kernel_rfl)) ?_
  replace hF := lett_some hF; obtain ⟨t7, e4, hF⟩ := hF
  refine WL.val (d := (some 7)) (v := .int .i64 t7) (h' := h) (by kernel_rfl) (by kernel_rfl) (val_of (AV.int .i64) e4 (by kernel_rfl)) ?_
  replace hF := obind_some hF; obtain ⟨t8, e5, hF⟩ := hF
  refine WL.val (d := (some 8)) (v := strA t8) (h' := h) (by kernel_rfl) (by kernel_rfl) (Eq.trans (by kernel_rfl) (slice_str (P := Tryd.prog) (h := h) (t := 9) (A := (some (.int .i64 t7))) (B := none) (by kernel_rfl) (.inl ⟨_, rfl⟩) (.inr ⟨rfl, rfl⟩) e5)) ?_
  refine WL.val (d := (some 2)) (v := strA t8) (h' := h) (by kernel_rfl) (by kernel_rfl) (by kernel_rfl) ?_
  refine WL.nil (by kernel_rfl) ?_
  refine Go.weaken (l' := [(2, strA t8)]) (Fr.sub_cons (by kernel_rfl) (Fr.sub_nil _)) ?_
  refine n2 ?_
  refine W.ret (by kernel_rfl) ?_
  obtain ⟨hF, hF2⟩ := ret_inj hF; subst hF; subst hF2
  exact leave_of (rs := [.tmp 2]) (vs := [strA t8]) (by kernel_rfl) (res_tmp (by kernel_rfl) res_nil) (by kernel_rfl)
noncomputable def match_Keep_fn (call : CallF) (n : Nat) : FnT := fun args h => match args with
  | [x0] => obind (avStr x0) fun t0 => match_Keep call n t0 h
  | _ => none
theorem match_Keep_fn_eq (call : CallF) (n : Nat) (t0 : Bytes) (h : AHeap) : match_Keep_fn call n [strA t0] h = match_Keep call n t0 h :=
  (Eq.trans (obind_eq (fun t0 => match_Keep call n t0 h) (avStr_str t0)) rfl)
theorem match_Keep_holds {call : CallF} (hc : SaysAll Tryd.prog call) (n : Nat) : Holds Tryd.prog 24 (match_Keep_fn call n) := by
  intro args h r h2 e
  unfold match_Keep_fn at e
  split at e
  · replace e := obind_some e; obtain ⟨t0, c0, e⟩ := e; have c0 := avStr_some c0; subst c0
    exact match_Keep_ok hc e
  · cases e

noncomputable def ref11_Keep (_ : CallF) (_ : Nat) (t0 : Bytes) (h : AHeap) : R :=
  lett (decide ((lenS t0) > 256)) fun (t5 : Bool) =>
  ifB t5
  (
    lett (IntKind.i64.wrap ((lenS t0) - 256)) fun (t9 : Int) =>
    obind (sliceS t0 t9 (lenS t0)) fun t10 =>
    some (.ret (strA t10), h))
  (
    some (.ret (strA t0), h))
set_option maxHeartbeats 4000000 in
set_option maxRecDepth 20000 in
theorem ref11_Keep_ok {call : CallF} (_ : SaysAll Tryd.prog call) {n : Nat} {t0 : Bytes} {h : AHeap} {rR : ARes} {hR : AHeap} (hF : ref11_Keep call n t0 h = some (rR, hR)) : Says Tryd.prog 27 [strA t0] h rR hR := by
  unfold ref11_Keep at hF
  refine says_of (fn := Tryd.f27) Tryd.func27 (c := codeOf Tryd.f27) (by kernel_rfl) (by kernel_rfl) (fun w0 m0 => ?_)
  refine W.weaken (l' := [(0, strA t0)]) (Fr.sub_cons (by kernel_rfl) (Fr.sub_nil _)) ?_
  refine W.seqK (by kernel_rfl) (fun K1 n1 e1 r1 p1 => ?_)
  refine W.region (by kernel_rfl) ?_
  refine WL.val (d := (some 2)) (v := strA ([] : Bytes)) (h' := h) (by kernel_rfl) (by kernel_rfl) (by kernel_rfl) ?_
  refine WL.nil (by kernel_rfl) ?_
  refine Go.weaken (l' := [(0, strA t0)]) (Fr.sub_cons (by kernel_rfl) (Fr.sub_nil _)) ?_
  refine n1 ?_
  refine W.seqK (by kernel_rfl) (fun K2 n2 e2 r2 p2 => ?_)
  refine W.seqK (by kernel_rfl) (fun K3 n3 e3 r3 p3 => ?_)
  refine W.region (by kernel_rfl) ?_
  refine WL.val (d := (some 3)) (v := strA t0) (h' := h) (by kernel_rfl) (by kernel_rfl) (by kernel_rfl) ?_
  refine WL.val (d := (some 4)) (v := .int .i64 (lenS t0)) (h' := h) (by kernel_rfl) (by kernel_rfl) (by kernel_rfl) ?_
  replace hF := lett_some hF; obtain ⟨t5, e4, hF⟩ := hF
  refine WL.val (d := (some 5)) (v := .bool t5) (h' := h) (by kernel_rfl) (by kernel_rfl) (val_of AV.bool e4 (by kernel_rfl)) ?_
  refine WL.nil (by kernel_rfl) ?_
  refine Go.weaken (l' := [(0, strA t0), (5, .bool t5)]) (Fr.sub_cons (by kernel_rfl) (Fr.sub_cons (by kernel_rfl) (Fr.sub_nil _))) ?_
  refine n3 ?_
  cases t5 with
  | true =>
    replace hF := ifB_t hF
    refine W.cond_true (by kernel_rfl) (by kernel_rfl) ?_
    refine W.seqK (by kernel_rfl) (fun K5 n5 e5 r5 p5 => ?_)
    refine W.region (by kernel_rfl) ?_
    refine WL.val (d := (some 6)) (v := strA t0) (h' := h) (by kernel_rfl) (by kernel_rfl) (by kernel_rfl) ?_
    refine WL.val (d := (some 7)) (v := strA t0) (h' := h) (by kernel_rfl) (by kernel_rfl) (by kernel_rfl) ?_
    refine WL.val (d := (some 8)) (v := .int .i64 (lenS t0)) (h' := h) (by kernel_rfl) (by kernel_rfl) (by kernel_rfl) ?_
    replace hF := lett_some hF; obtain ⟨t9, e6, hF⟩ := hF
    refine WL.val (d := (some 9)) (v := .int .i64 t9) (h' := h) (by kernel_rfl) (by kernel_rfl) (val_of (AV.int .i64) e6 (by kernel_rfl)) ?_
    replace hF := obind_some hF; obtain ⟨t10, e7, hF⟩ := hF
    refine WL.val (d := (some 10)) (v := strA t10) (h' := h) (by kernel_rfl) (by kernel_rfl) (Eq.trans (by kernel_rfl) (slice_str (P := Tryd.prog) (h := h) (t := 9) (A := (some (.int .i64 t9))) (B := none) (by kernel_rfl) (.inl ⟨_, rfl⟩) (.inr ⟨rfl, rfl⟩) e7)) ?_
    refine WL.val (d := (some 2)) (v := strA t10) (h' := h) (by kernel_rfl) (by kernel_rfl) (by kernel_rfl) ?_
    refine WL.nil (by kernel_rfl) ?_
    refine Go.weaken (l' := [(2, strA t10)]) (Fr.sub_cons (by kernel_rfl) (Fr.sub_nil _)) ?_
    refine n5 ?_
    refine W.ret (by kernel_rfl) ?_
    refine r2 ?_
    obtain ⟨hF, hF2⟩ := ret_inj hF; subst hF; subst hF2
    exact leave_of (rs := [.tmp 2]) (vs := [strA t10]) (by kernel_rfl) (res_tmp (by kernel_rfl) res_nil) (by kernel_rfl)
  | false =>
    replace hF := ifB_f hF
    refine W.cond_false (by kernel_rfl) (by kernel_rfl) ?_
    refine W.skip (by kernel_rfl) ?_
    refine n2 ?_
    refine W.seqK (by kernel_rfl) (fun K8 n8 e8 r8 p8 => ?_)
    refine W.region (by kernel_rfl) ?_
    refine WL.val (d := (some 11)) (v := strA t0) (h' := h) (by kernel_rfl) (by kernel_rfl) (by kernel_rfl) ?_
    refine WL.val (d := (some 2)) (v := strA t0) (h' := h) (by kernel_rfl) (by kernel_rfl) (by kernel_rfl) ?_
    refine WL.nil (by kernel_rfl) ?_
    refine Go.weaken (l' := [(2, strA t0)]) (Fr.sub_cons (by kernel_rfl) (Fr.sub_nil _)) ?_
    refine n8 ?_
    refine W.ret (by kernel_rfl) ?_
    obtain ⟨hF, hF2⟩ := ret_inj hF; subst hF; subst hF2
    exact leave_of (rs := [.tmp 2]) (vs := [strA t0]) (by kernel_rfl) (res_tmp (by kernel_rfl) res_nil) (by kernel_rfl)
noncomputable def ref11_Keep_fn (call : CallF) (n : Nat) : FnT := fun args h => match args with
  | [x0] => obind (avStr x0) fun t0 => ref11_Keep call n t0 h
  | _ => none
theorem ref11_Keep_fn_eq (call : CallF) (n : Nat) (t0 : Bytes) (h : AHeap) : ref11_Keep_fn call n [strA t0] h = ref11_Keep call n t0 h :=
  (Eq.trans (obind_eq (fun t0 => ref11_Keep call n t0 h) (avStr_str t0)) rfl)
theorem ref11_Keep_holds {call : CallF} (hc : SaysAll Tryd.prog call) (n : Nat) : Holds Tryd.prog 27 (ref11_Keep_fn call n) := by
  intro args h r h2 e
  unfold ref11_Keep_fn at e
  split at e
  · replace e := obind_some e; obtain ⟨t0, c0, e⟩ := e; have c0 := avStr_some c0; subst c0
    exact ref11_Keep_ok hc e
  · cases e

end Go.Proofs.YtjnnfdfalcdeoaaDoor
