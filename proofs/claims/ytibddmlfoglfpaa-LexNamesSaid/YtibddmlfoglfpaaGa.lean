/- Plain functions in place of the program's, and that their calls come to what they say. -/
import Derived.Test.YtibddmlfoglfpaaFrame
import Derived.Test.YtibddmlfoglfpaaAbs25
namespace Go.Proofs.Ytibddmlfoglfpaa
open Go.RowKit Abs

noncomputable def law12_LexNames (call : CallF) (_ : Nat) (t0 : Bytes) (h : AHeap) : R :=
  callN (call 7 [] h) fun r3 h_4 =>
  obind (avBool r3) fun t3 =>
  lett (!t3) fun (t4 : Bool) =>
  ifB t4
  (
    some (.ret (.bool false), h_4))
  (
    callN (call 8 [strA t0] h_4) fun r6 h_11 =>
    obind (avBool r6) fun t6 =>
    ifB t6
    (
      some (.ret (.bool true), h_11))
    (
      callN (call 11 [strA t0] h_11) fun r8 h_16 =>
      obind (avBool r8) fun t8 =>
      callN (call 12 [strA t0] h_16) fun r10 h_19 =>
      obind (avBool r10) fun t10 =>
      lett ((t8 : Bool) == t10) fun (t11 : Bool) =>
      some (.ret (.bool t11), h_19)))
set_option maxHeartbeats 4000000 in
set_option maxRecDepth 20000 in
theorem law12_LexNames_ok {call : CallF} (hc : SaysAll Try.prog call) {n : Nat} {t0 : Bytes} {h : AHeap} {rR : ARes} {hR : AHeap} (hF : law12_LexNames call n t0 h = some (rR, hR)) : Says Try.prog 5 [strA t0] h rR hR := by
  unfold law12_LexNames at hF
  refine says_of (fn := Try.f5) Try.func5 (c := codeOf Try.f5) (by kernel_rfl) (by kernel_rfl) (fun w0 m0 => ?_)
  refine W.weaken (l' := [(0, strA t0)]) (Fr.sub_cons (by kernel_rfl) (Fr.sub_nil _)) ?_
  refine W.seqK (by kernel_rfl) (fun K1 n1 e1 r1 p1 => ?_)
  refine W.region (by kernel_rfl) ?_
  refine WL.val (d := (some 2)) (v := .bool false) (h' := h) (by kernel_rfl) (by kernel_rfl) (by kernel_rfl) ?_
  refine WL.nil (by kernel_rfl) ?_
  refine Go.weaken (l' := [(0, strA t0)]) (Fr.sub_cons (by kernel_rfl) (Fr.sub_nil _)) ?_
  refine n1 ?_
  refine W.seqK (by kernel_rfl) (fun K2 n2 e2 r2 p2 => ?_)
  refine W.seqK (by kernel_rfl) (fun K3 n3 e3 r3 p3 => ?_)
  refine W.region (by kernel_rfl) ?_
  replace hF := callN_some hF; obtain ⟨r3, h_4, e5, hF⟩ := hF
  replace hF := obind_some hF; obtain ⟨t3, c6, hF⟩ := hF
  have c6 := avBool_some c6
  subst c6
  refine WL.call (hc.ok w0) (d := (some 3)) (by kernel_rfl) (by kernel_rfl) (by kernel_rfl) e5 ?_
  replace hF := lett_some hF; obtain ⟨t4, e7, hF⟩ := hF
  refine WL.val (d := (some 4)) (v := .bool t4) (h' := h_4) (by kernel_rfl) (by kernel_rfl) (val_of AV.bool e7 (by kernel_rfl)) ?_
  refine WL.nil (by kernel_rfl) ?_
  refine Go.weaken (l' := [(0, strA t0), (4, .bool t4)]) (Fr.sub_cons (by kernel_rfl) (Fr.sub_cons (by kernel_rfl) (Fr.sub_nil _))) ?_
  refine n3 ?_
  cases t4 with
  | true =>
    replace hF := ifB_t hF
    refine W.cond_true (by kernel_rfl) (by kernel_rfl) ?_
    refine W.seqK (by kernel_rfl) (fun K8 n8 e8 r8 p8 => ?_)
    refine W.region (by kernel_rfl) ?_
    refine WL.val (d := (some 2)) (v := .bool false) (h' := h_4) (by kernel_rfl) (by kernel_rfl) (by kernel_rfl) ?_
    refine WL.nil (by kernel_rfl) ?_
    refine Go.weaken (l' := [(2, .bool false)]) (Fr.sub_cons (by kernel_rfl) (Fr.sub_nil _)) ?_
    refine n8 ?_
    refine W.ret (by kernel_rfl) ?_
    refine r2 ?_
    obtain ⟨hF, hF2⟩ := ret_inj hF; subst hF; subst hF2
    exact leave_of (rs := [.tmp 2]) (vs := [.bool false]) (by kernel_rfl) (res_tmp (by kernel_rfl) res_nil) (by kernel_rfl)
  | false =>
    replace hF := ifB_f hF
    refine W.cond_false (by kernel_rfl) (by kernel_rfl) ?_
    refine W.skip (by kernel_rfl) ?_
    refine n2 ?_
    refine W.seqK (by kernel_rfl) (fun K9 n9 e9 r9 p9 => ?_)
    refine W.seqK (by kernel_rfl) (fun K10 n10 e10 r10 p10 => ?_)
    refine W.region (by kernel_rfl) ?_
    refine WL.val (d := (some 5)) (v := strA t0) (h' := h_4) (by kernel_rfl) (by kernel_rfl) (by kernel_rfl) ?_
    replace hF := callN_some hF; obtain ⟨r6, h_11, e12, hF⟩ := hF
    replace hF := obind_some hF; obtain ⟨t6, c13, hF⟩ := hF
    have c13 := avBool_some c13
    subst c13
    refine WL.call (hc.ok w0) (d := (some 6)) (by kernel_rfl) (by kernel_rfl) (by kernel_rfl) e12 ?_
    refine WL.nil (by kernel_rfl) ?_
    refine Go.weaken (l' := [(0, strA t0), (6, .bool t6)]) (Fr.sub_cons (by kernel_rfl) (Fr.sub_cons (by kernel_rfl) (Fr.sub_nil _))) ?_
    refine n10 ?_
    cases t6 with
    | true =>
      replace hF := ifB_t hF
      refine W.cond_true (by kernel_rfl) (by kernel_rfl) ?_
      refine W.seqK (by kernel_rfl) (fun K14 n14 e14 r14 p14 => ?_)
      refine W.region (by kernel_rfl) ?_
      refine WL.val (d := (some 2)) (v := .bool true) (h' := h_11) (by kernel_rfl) (by kernel_rfl) (by kernel_rfl) ?_
      refine WL.nil (by kernel_rfl) ?_
      refine Go.weaken (l' := [(2, .bool true)]) (Fr.sub_cons (by kernel_rfl) (Fr.sub_nil _)) ?_
      refine n14 ?_
      refine W.ret (by kernel_rfl) ?_
      refine r9 ?_
      obtain ⟨hF, hF2⟩ := ret_inj hF; subst hF; subst hF2
      exact leave_of (rs := [.tmp 2]) (vs := [.bool true]) (by kernel_rfl) (res_tmp (by kernel_rfl) res_nil) (by kernel_rfl)
    | false =>
      replace hF := ifB_f hF
      refine W.cond_false (by kernel_rfl) (by kernel_rfl) ?_
      refine W.skip (by kernel_rfl) ?_
      refine n9 ?_
      refine W.seqK (by kernel_rfl) (fun K15 n15 e15 r15 p15 => ?_)
      refine W.region (by kernel_rfl) ?_
      refine WL.val (d := (some 7)) (v := strA t0) (h' := h_11) (by kernel_rfl) (by kernel_rfl) (by kernel_rfl) ?_
      replace hF := callN_some hF; obtain ⟨r8, h_16, e17, hF⟩ := hF
      replace hF := obind_some hF; obtain ⟨t8, c18, hF⟩ := hF
      have c18 := avBool_some c18
      subst c18
      refine WL.call (hc.ok w0) (d := (some 8)) (by kernel_rfl) (by kernel_rfl) (by kernel_rfl) e17 ?_
      refine WL.val (d := (some 9)) (v := strA t0) (h' := h_16) (by kernel_rfl) (by kernel_rfl) (by kernel_rfl) ?_
      replace hF := callN_some hF; obtain ⟨r10, h_19, e20, hF⟩ := hF
      replace hF := obind_some hF; obtain ⟨t10, c21, hF⟩ := hF
      have c21 := avBool_some c21
      subst c21
      refine WL.call (hc.ok w0) (d := (some 10)) (by kernel_rfl) (by kernel_rfl) (by kernel_rfl) e20 ?_
      replace hF := lett_some hF; obtain ⟨t11, e22, hF⟩ := hF
      refine WL.val (d := (some 11)) (v := .bool t11) (h' := h_19) (by kernel_rfl) (by kernel_rfl) (val_of AV.bool e22 (by kernel_rfl)) ?_
      refine WL.val (d := (some 2)) (v := .bool t11) (h' := h_19) (by kernel_rfl) (by kernel_rfl) (by kernel_rfl) ?_
      refine WL.nil (by kernel_rfl) ?_
      refine Go.weaken (l' := [(2, .bool t11)]) (Fr.sub_cons (by kernel_rfl) (Fr.sub_nil _)) ?_
      refine n15 ?_
      refine W.ret (by kernel_rfl) ?_
      obtain ⟨hF, hF2⟩ := ret_inj hF; subst hF; subst hF2
      exact leave_of (rs := [.tmp 2]) (vs := [.bool t11]) (by kernel_rfl) (res_tmp (by kernel_rfl) res_nil) (by kernel_rfl)
noncomputable def law12_LexNames_fn (call : CallF) (n : Nat) : FnT := fun args h => match args with
  | [x0] => obind (avStr x0) fun t0 => law12_LexNames call n t0 h
  | _ => none
theorem law12_LexNames_fn_eq (call : CallF) (n : Nat) (t0 : Bytes) (h : AHeap) : law12_LexNames_fn call n [strA t0] h = law12_LexNames call n t0 h :=
  (Eq.trans (obind_eq (fun t0 => law12_LexNames call n t0 h) (avStr_str t0)) rfl)
theorem law12_LexNames_holds {call : CallF} (hc : SaysAll Try.prog call) (n : Nat) : Holds Try.prog 5 (law12_LexNames_fn call n) := by
  intro args h r h2 e
  unfold law12_LexNames_fn at e
  split at e
  · replace e := obind_some e; obtain ⟨t0, c0, e⟩ := e; have c0 := avStr_some c0; subst c0
    exact law12_LexNames_ok hc e
  · cases e

noncomputable def law12_great (_ : CallF) (_ : Nat) (t0 : Bytes) (h : AHeap) : R :=
  lett (decide ((lenS t0) > 65536)) fun (t5 : Bool) =>
  some (.ret (.bool t5), h)
set_option maxHeartbeats 4000000 in
set_option maxRecDepth 20000 in
theorem law12_great_ok {call : CallF} (_ : SaysAll Try.prog call) {n : Nat} {t0 : Bytes} {h : AHeap} {rR : ARes} {hR : AHeap} (hF : law12_great call n t0 h = some (rR, hR)) : Says Try.prog 8 [strA t0] h rR hR := by
  unfold law12_great at hF
  refine says_of (fn := Try.f8) Try.func8 (c := codeOf Try.f8) (by kernel_rfl) (by kernel_rfl) (fun w0 m0 => ?_)
  refine W.weaken (l' := [(0, strA t0)]) (Fr.sub_cons (by kernel_rfl) (Fr.sub_nil _)) ?_
  refine W.seqK (by kernel_rfl) (fun K1 n1 e1 r1 p1 => ?_)
  refine W.region (by kernel_rfl) ?_
  refine WL.val (d := (some 2)) (v := .bool false) (h' := h) (by kernel_rfl) (by kernel_rfl) (by kernel_rfl) ?_
  refine WL.nil (by kernel_rfl) ?_
  refine Go.weaken (l' := [(0, strA t0)]) (Fr.sub_cons (by kernel_rfl) (Fr.sub_nil _)) ?_
  refine n1 ?_
  refine W.seqK (by kernel_rfl) (fun K2 n2 e2 r2 p2 => ?_)
  refine W.region (by kernel_rfl) ?_
  refine WL.val (d := (some 3)) (v := strA t0) (h' := h) (by kernel_rfl) (by kernel_rfl) (by kernel_rfl) ?_
  refine WL.val (d := (some 4)) (v := .int .i64 (lenS t0)) (h' := h) (by kernel_rfl) (by kernel_rfl) (by kernel_rfl) ?_
  replace hF := lett_some hF; obtain ⟨t5, e3, hF⟩ := hF
  refine WL.val (d := (some 5)) (v := .bool t5) (h' := h) (by kernel_rfl) (by kernel_rfl) (val_of AV.bool e3 (by kernel_rfl)) ?_
  refine WL.val (d := (some 2)) (v := .bool t5) (h' := h) (by kernel_rfl) (by kernel_rfl) (by kernel_rfl) ?_
  refine WL.nil (by kernel_rfl) ?_
  refine Go.weaken (l' := [(2, .bool t5)]) (Fr.sub_cons (by kernel_rfl) (Fr.sub_nil _)) ?_
  refine n2 ?_
  refine W.ret (by kernel_rfl) ?_
  obtain ⟨hF, hF2⟩ := ret_inj hF; subst hF; subst hF2
  exact leave_of (rs := [.tmp 2]) (vs := [.bool t5]) (by kernel_rfl) (res_tmp (by kernel_rfl) res_nil) (by kernel_rfl)
noncomputable def law12_great_fn (call : CallF) (n : Nat) : FnT := fun args h => match args with
  | [x0] => obind (avStr x0) fun t0 => law12_great call n t0 h
  | _ => none
theorem law12_great_fn_eq (call : CallF) (n : Nat) (t0 : Bytes) (h : AHeap) : law12_great_fn call n [strA t0] h = law12_great call n t0 h :=
  (Eq.trans (obind_eq (fun t0 => law12_great call n t0 h) (avStr_str t0)) rfl)
theorem law12_great_holds {call : CallF} (hc : SaysAll Try.prog call) (n : Nat) : Holds Try.prog 8 (law12_great_fn call n) := by
  intro args h r h2 e
  unfold law12_great_fn at e
  split at e
  · replace e := obind_some e; obtain ⟨t0, c0, e⟩ := e; have c0 := avStr_some c0; subst c0
    exact law12_great_ok hc e
  · cases e

noncomputable def lex_Name (call : CallF) (_ : Nat) (t0 : Bytes) (h : AHeap) : R :=
  lett (eqS t0 ([] : Bytes)) fun (t6 : Bool) =>
  lett (fun (t12 : Bool) (h_5 : AHeap) =>
    lett (fun (t16 : Bool) (h_8 : AHeap) =>
      ifB t16
      (
        some (.ret (.bool false), h_8))
      (
        callN (call 17 [strA t0, .int .i64 0] h_8) fun r19 h_13 =>
        obind (extT 0 r19) fun v20 =>
        obind (avInt .i64 v20) fun t20 =>
        obind (extT 1 r19) fun v21 =>
        obind (avInt .i64 v21) fun t21 =>
        lett ((t20 : Int) == (lenS t0)) fun (t25 : Bool) =>
        lett (fun (t29 : Bool) (h_21 : AHeap) =>
          some (.ret (.bool t29), h_21)) fun j29 =>
        ifB t25
        (
          lett ((t21 : Int) == 0) fun (t28 : Bool) =>
          j29 t28 h_13)
        (
          j29 false h_13))) fun j16 =>
    ifB t12
    (
      j16 true h_5)
    (
      callN (call 16 [strA t0] h_5) fun r15 h_25 =>
      obind (avBool r15) fun t15 =>
      j16 t15 h_25)) fun j12 =>
  ifB t6
  (
    j12 true h)
  (
    obind (idxS t0 0) fun t9 =>
    callN (call 15 [.int .u8 t9] h) fun r10 h_29 =>
    obind (avBool r10) fun t10 =>
    lett (!t10) fun (t11 : Bool) =>
    j12 t11 h_29)
set_option maxHeartbeats 4000000 in
set_option maxRecDepth 20000 in
theorem lex_Name_ok {call : CallF} (hc : SaysAll Try.prog call) {n : Nat} {t0 : Bytes} {h : AHeap} {rR : ARes} {hR : AHeap} (hF : lex_Name call n t0 h = some (rR, hR)) : Says Try.prog 11 [strA t0] h rR hR := by
  unfold lex_Name at hF
  refine says_of (fn := Try.f11) Try.func11 (c := codeOf Try.f11) (by kernel_rfl) (by kernel_rfl) (fun w0 m0 => ?_)
  refine W.weaken (l' := [(0, strA t0)]) (Fr.sub_cons (by kernel_rfl) (Fr.sub_nil _)) ?_
  refine W.seqK (by kernel_rfl) (fun K1 n1 e1 r1 p1 => ?_)
  refine W.region (by kernel_rfl) ?_
  refine WL.val (d := (some 2)) (v := .bool false) (h' := h) (by kernel_rfl) (by kernel_rfl) (by kernel_rfl) ?_
  refine WL.nil (by kernel_rfl) ?_
  refine Go.weaken (l' := [(0, strA t0)]) (Fr.sub_cons (by kernel_rfl) (Fr.sub_nil _)) ?_
  refine n1 ?_
  refine W.seqK (by kernel_rfl) (fun K2 n2 e2 r2 p2 => ?_)
  refine W.seqK (by kernel_rfl) (fun K3 n3 e3 r3 p3 => ?_)
  refine W.region (by kernel_rfl) ?_
  refine WL.val (d := (some 5)) (v := strA t0) (h' := h) (by kernel_rfl) (by kernel_rfl) (by kernel_rfl) ?_
  replace hF := lett_some hF; obtain ⟨t6, e4, hF⟩ := hF
  refine WL.val (d := (some 6)) (v := .bool t6) (h' := h) (by kernel_rfl) (by kernel_rfl) (val_of AV.bool e4 (by kernel_rfl)) ?_
  refine WL.val (d := (some 7)) (v := .bool t6) (h' := h) (by kernel_rfl) (by kernel_rfl) (by kernel_rfl) ?_
  replace hF := lett_some hF; obtain ⟨j12, e6, hF⟩ := hF
  have J7 : ∀ (t12 : Bool) (h_5 : AHeap), j12 t12 h_5 = some (rR, hR) → WL Try.prog w0 m0 (Func.ntmps Try.f11) (Code.ops (Code.p1 (Code.p1 (Code.p2 (codeOf Try.f11))))) 8 K3 [(0, strA t0), (12, .bool t12)] [] h_5 := by
    intro t12 h_5 hF
    rw [e6] at hF
    refine WL.val (d := (some 13)) (v := .bool t12) (h' := h_5) (by kernel_rfl) (by kernel_rfl) (by kernel_rfl) ?_
    replace hF := lett_some hF; obtain ⟨j16, e9, hF⟩ := hF
    have J10 : ∀ (t16 : Bool) (h_8 : AHeap), j16 t16 h_8 = some (rR, hR) → WL Try.prog w0 m0 (Func.ntmps Try.f11) (Code.ops (Code.p1 (Code.p1 (Code.p2 (codeOf Try.f11))))) 12 K3 [(0, strA t0), (16, .bool t16)] [] h_8 := by
      intro t16 h_8 hF
      rw [e9] at hF
      refine WL.nil (by kernel_rfl) ?_
      refine Go.weaken (l' := [(0, strA t0), (16, .bool t16)]) (Fr.sub_cons (by kernel_rfl) (Fr.sub_cons (by kernel_rfl) (Fr.sub_nil _))) ?_
      refine n3 ?_
      cases t16 with
      | true =>
        replace hF := ifB_t hF
        refine W.cond_true (by kernel_rfl) (by kernel_rfl) ?_
        refine W.seqK (by kernel_rfl) (fun K11 n11 e11 r11 p11 => ?_)
        refine W.region (by kernel_rfl) ?_
        refine WL.val (d := (some 2)) (v := .bool false) (h' := h_8) (by kernel_rfl) (by kernel_rfl) (by kernel_rfl) ?_
        refine WL.nil (by kernel_rfl) ?_
        refine Go.weaken (l' := [(2, .bool false)]) (Fr.sub_cons (by kernel_rfl) (Fr.sub_nil _)) ?_
        refine n11 ?_
        refine W.ret (by kernel_rfl) ?_
        refine r2 ?_
        obtain ⟨hF, hF2⟩ := ret_inj hF; subst hF; subst hF2
        exact leave_of (rs := [.tmp 2]) (vs := [.bool false]) (by kernel_rfl) (res_tmp (by kernel_rfl) res_nil) (by kernel_rfl)
      | false =>
        replace hF := ifB_f hF
        refine W.cond_false (by kernel_rfl) (by kernel_rfl) ?_
        refine W.skip (by kernel_rfl) ?_
        refine n2 ?_
        refine W.seqK (by kernel_rfl) (fun K12 n12 e12 r12 p12 => ?_)
        refine W.region (by kernel_rfl) ?_
        refine WL.val (d := (some 18)) (v := strA t0) (h' := h_8) (by kernel_rfl) (by kernel_rfl) (by kernel_rfl) ?_
        replace hF := callN_some hF; obtain ⟨r19, h_13, e14, hF⟩ := hF
        refine WL.call (hc.ok w0) (d := (some 19)) (by kernel_rfl) (by kernel_rfl) (by kernel_rfl) e14 ?_
        refine WL.val (d := (some 17)) (v := r19) (h' := h_13) (by kernel_rfl) (by kernel_rfl) (by kernel_rfl) ?_
        replace hF := obind_some hF; obtain ⟨v20, e15, hF⟩ := hF
        replace hF := obind_some hF; obtain ⟨t20, c16, hF⟩ := hF
        have c16 := avInt_some c16
        subst c16
        refine WL.val (d := (some 20)) (v := .int .i64 t20) (h' := h_13) (by kernel_rfl) (by kernel_rfl) (Eq.trans (by kernel_rfl) (extract_tup (h := h_13) e15)) ?_
        replace hF := obind_some hF; obtain ⟨v21, e17, hF⟩ := hF
        replace hF := obind_some hF; obtain ⟨t21, c18, hF⟩ := hF
        have c18 := avInt_some c18
        subst c18
        refine WL.val (d := (some 21)) (v := .int .i64 t21) (h' := h_13) (by kernel_rfl) (by kernel_rfl) (Eq.trans (by kernel_rfl) (extract_tup (h := h_13) e17)) ?_
        refine WL.val (d := (some 3)) (v := .int .i64 t20) (h' := h_13) (by kernel_rfl) (by kernel_rfl) (by kernel_rfl) ?_
        refine WL.val (d := (some 4)) (v := .int .i64 t21) (h' := h_13) (by kernel_rfl) (by kernel_rfl) (by kernel_rfl) ?_
        refine WL.nil (by kernel_rfl) ?_
        refine Go.weaken (l' := [(0, strA t0), (3, .int .i64 t20), (4, .int .i64 t21)]) (Fr.sub_cons (by kernel_rfl) (Fr.sub_cons (by kernel_rfl) (Fr.sub_cons (by kernel_rfl) (Fr.sub_nil _)))) ?_
        refine n12 ?_
        refine W.seqK (by kernel_rfl) (fun K19 n19 e19 r19 p19 => ?_)
        refine W.region (by kernel_rfl) ?_
        refine WL.val (d := (some 22)) (v := .int .i64 t20) (h' := h_13) (by kernel_rfl) (by kernel_rfl) (by kernel_rfl) ?_
        refine WL.val (d := (some 23)) (v := strA t0) (h' := h_13) (by kernel_rfl) (by kernel_rfl) (by kernel_rfl) ?_
        refine WL.val (d := (some 24)) (v := .int .i64 (lenS t0)) (h' := h_13) (by kernel_rfl) (by kernel_rfl) (by kernel_rfl) ?_
        replace hF := lett_some hF; obtain ⟨t25, e20, hF⟩ := hF
        refine WL.val (d := (some 25)) (v := .bool t25) (h' := h_13) (by kernel_rfl) (by kernel_rfl) (val_of AV.bool e20 (by kernel_rfl)) ?_
        refine WL.val (d := (some 26)) (v := .bool t25) (h' := h_13) (by kernel_rfl) (by kernel_rfl) (by kernel_rfl) ?_
        replace hF := lett_some hF; obtain ⟨j29, e22, hF⟩ := hF
        have J23 : ∀ (t29 : Bool) (h_21 : AHeap), j29 t29 h_21 = some (rR, hR) → WL Try.prog w0 m0 (Func.ntmps Try.f11) (Code.ops (Code.p1 (Code.p2 (Code.p2 (Code.p2 (codeOf Try.f11)))))) 8 K19 [(29, .bool t29)] [] h_21 := by
          intro t29 h_21 hF
          rw [e22] at hF
          refine WL.val (d := (some 2)) (v := .bool t29) (h' := h_21) (by kernel_rfl) (by kernel_rfl) (by kernel_rfl) ?_
          refine WL.nil (by kernel_rfl) ?_
          refine Go.weaken (l' := [(2, .bool t29)]) (Fr.sub_cons (by kernel_rfl) (Fr.sub_nil _)) ?_
          refine n19 ?_
          refine W.ret (by kernel_rfl) ?_
          obtain ⟨hF, hF2⟩ := ret_inj hF; subst hF; subst hF2
          exact leave_of (rs := [.tmp 2]) (vs := [.bool t29]) (by kernel_rfl) (res_tmp (by kernel_rfl) res_nil) (by kernel_rfl)
        cases t25 with
        | true =>
          replace hF := ifB_t hF
          refine WL.val (d := (some 27)) (v := .int .i64 t21) (h' := h_13) (by kernel_rfl) (by kernel_rfl) (by kernel_rfl) ?_
          replace hF := lett_some hF; obtain ⟨t28, e24, hF⟩ := hF
          refine WL.val (d := (some 28)) (v := .bool t28) (h' := h_13) (by kernel_rfl) (by kernel_rfl) (val_of AV.bool e24 (by kernel_rfl)) ?_
          refine WL.val (d := (some 29)) (v := .bool t28) (h' := h_13) (by kernel_rfl) (by kernel_rfl) (by kernel_rfl) ?_
          exact WL.weaken (Fr.sub_cons (by kernel_rfl) (Fr.sub_nil _)) (J23 _ _ hF)
        | false =>
          replace hF := ifB_f hF
          refine WL.not (d := (some 27)) (by kernel_rfl) (by kernel_rfl) ?_
          refine WL.not (d := (some 28)) (by kernel_rfl) (by kernel_rfl) ?_
          refine WL.val (d := (some 29)) (v := .bool false) (h' := h_13) (by kernel_rfl) (by kernel_rfl) (by kernel_rfl) ?_
          exact WL.weaken (Fr.sub_cons (by kernel_rfl) (Fr.sub_nil _)) (J23 _ _ hF)
    cases t12 with
    | true =>
      replace hF := ifB_t hF
      refine WL.not (d := (some 14)) (by kernel_rfl) (by kernel_rfl) ?_
      refine WL.not (d := (some 15)) (by kernel_rfl) (by kernel_rfl) ?_
      refine WL.val (d := (some 16)) (v := .bool true) (h' := h_5) (by kernel_rfl) (by kernel_rfl) (by kernel_rfl) ?_
      exact WL.weaken (Fr.sub_cons (by kernel_rfl) (Fr.sub_cons (by kernel_rfl) (Fr.sub_nil _))) (J10 _ _ hF)
    | false =>
      replace hF := ifB_f hF
      refine WL.val (d := (some 14)) (v := strA t0) (h' := h_5) (by kernel_rfl) (by kernel_rfl) (by kernel_rfl) ?_
      replace hF := callN_some hF; obtain ⟨r15, h_25, e26, hF⟩ := hF
      replace hF := obind_some hF; obtain ⟨t15, c27, hF⟩ := hF
      have c27 := avBool_some c27
      subst c27
      refine WL.call (hc.ok w0) (d := (some 15)) (by kernel_rfl) (by kernel_rfl) (by kernel_rfl) e26 ?_
      refine WL.val (d := (some 16)) (v := .bool t15) (h' := h_25) (by kernel_rfl) (by kernel_rfl) (by kernel_rfl) ?_
      exact WL.weaken (Fr.sub_cons (by kernel_rfl) (Fr.sub_cons (by kernel_rfl) (Fr.sub_nil _))) (J10 _ _ hF)
  cases t6 with
  | true =>
    replace hF := ifB_t hF
    refine WL.not (d := (some 8)) (by kernel_rfl) (by kernel_rfl) ?_
    refine WL.not (d := (some 9)) (by kernel_rfl) (by kernel_rfl) ?_
    refine WL.not (d := (some 10)) (by kernel_rfl) (by kernel_rfl) ?_
    refine WL.not (d := (some 11)) (by kernel_rfl) (by kernel_rfl) ?_
    refine WL.val (d := (some 12)) (v := .bool true) (h' := h) (by kernel_rfl) (by kernel_rfl) (by kernel_rfl) ?_
    exact WL.weaken (Fr.sub_cons (by kernel_rfl) (Fr.sub_cons (by kernel_rfl) (Fr.sub_nil _))) (J7 _ _ hF)
  | false =>
    replace hF := ifB_f hF
    refine WL.val (d := (some 8)) (v := strA t0) (h' := h) (by kernel_rfl) (by kernel_rfl) (by kernel_rfl) ?_
    replace hF := obind_some hF; obtain ⟨t9, e28, hF⟩ := hF
    refine WL.val (d := (some 9)) (v := .int .u8 t9) (h' := h) (by kernel_rfl) (by kernel_rfl) (Eq.trans (by kernel_rfl) (index_str (P := Try.prog) (h := h) (t := 9) (k := .i64) (by kernel_rfl) e28)) ?_
    replace hF := callN_some hF; obtain ⟨r10, h_29, e30, hF⟩ := hF
    replace hF := obind_some hF; obtain ⟨t10, c31, hF⟩ := hF
    have c31 := avBool_some c31
    subst c31
    refine WL.call (hc.ok w0) (d := (some 10)) (by kernel_rfl) (by kernel_rfl) (by kernel_rfl) e30 ?_
    replace hF := lett_some hF; obtain ⟨t11, e32, hF⟩ := hF
    refine WL.val (d := (some 11)) (v := .bool t11) (h' := h_29) (by kernel_rfl) (by kernel_rfl) (val_of AV.bool e32 (by kernel_rfl)) ?_
    refine WL.val (d := (some 12)) (v := .bool t11) (h' := h_29) (by kernel_rfl) (by kernel_rfl) (by kernel_rfl) ?_
    exact WL.weaken (Fr.sub_cons (by kernel_rfl) (Fr.sub_cons (by kernel_rfl) (Fr.sub_nil _))) (J7 _ _ hF)
noncomputable def lex_Name_fn (call : CallF) (n : Nat) : FnT := fun args h => match args with
  | [x0] => obind (avStr x0) fun t0 => lex_Name call n t0 h
  | _ => none
theorem lex_Name_fn_eq (call : CallF) (n : Nat) (t0 : Bytes) (h : AHeap) : lex_Name_fn call n [strA t0] h = lex_Name call n t0 h :=
  (Eq.trans (obind_eq (fun t0 => lex_Name call n t0 h) (avStr_str t0)) rfl)
theorem lex_Name_holds {call : CallF} (hc : SaysAll Try.prog call) (n : Nat) : Holds Try.prog 11 (lex_Name_fn call n) := by
  intro args h r h2 e
  unfold lex_Name_fn at e
  split at e
  · replace e := obind_some e; obtain ⟨t0, c0, e⟩ := e; have c0 := avStr_some c0; subst c0
    exact lex_Name_ok hc e
  · cases e

noncomputable def lex_wordEnd (call : CallF) (_ : Nat) (t0 : Bytes) (t1 : Int) (h : AHeap) : R :=
  callN (call 27 [strA t0, .int .i64 t1, .int .i64 16, (AV.fn 28 [] [])] h) fun r8 h_3 =>
  obind (extT 0 r8) fun v9 =>
  obind (avInt .i64 v9) fun t9 =>
  obind (extT 1 r8) fun v10 =>
  obind (avInt .i64 v10) fun t10 =>
  some (.ret (.tup [.int .i64 t9, .int .i64 t10]), h_3)
set_option maxHeartbeats 4000000 in
set_option maxRecDepth 20000 in
theorem lex_wordEnd_ok {call : CallF} (hc : SaysAll Try.prog call) {n : Nat} {t0 : Bytes} {t1 : Int} {h : AHeap} {rR : ARes} {hR : AHeap} (hF : lex_wordEnd call n t0 t1 h = some (rR, hR)) : Says Try.prog 17 [strA t0, .int .i64 t1] h rR hR := by
  unfold lex_wordEnd at hF
  refine says_of (fn := Try.f17) Try.func17 (c := codeOf Try.f17) (by kernel_rfl) (by kernel_rfl) (fun w0 m0 => ?_)
  refine W.weaken (l' := [(0, strA t0), (1, .int .i64 t1)]) (Fr.sub_cons (by kernel_rfl) (Fr.sub_cons (by kernel_rfl) (Fr.sub_nil _))) ?_
  refine W.seqK (by kernel_rfl) (fun K1 n1 e1 r1 p1 => ?_)
  refine W.region (by kernel_rfl) ?_
  refine WL.val (d := (some 4)) (v := .int .i64 0) (h' := h) (by kernel_rfl) (by kernel_rfl) (by kernel_rfl) ?_
  refine WL.val (d := (some 5)) (v := .int .i64 0) (h' := h) (by kernel_rfl) (by kernel_rfl) (by kernel_rfl) ?_
  refine WL.nil (by kernel_rfl) ?_
  refine Go.weaken (l' := [(0, strA t0), (1, .int .i64 t1)]) (Fr.sub_cons (by kernel_rfl) (Fr.sub_cons (by kernel_rfl) (Fr.sub_nil _))) ?_
  refine n1 ?_
  refine W.seqK (by kernel_rfl) (fun K2 n2 e2 r2 p2 => ?_)
  refine W.region (by kernel_rfl) ?_
  refine WL.val (d := (some 6)) (v := strA t0) (h' := h) (by kernel_rfl) (by kernel_rfl) (by kernel_rfl) ?_
  refine WL.val (d := (some 7)) (v := .int .i64 t1) (h' := h) (by kernel_rfl) (by kernel_rfl) (by kernel_rfl) ?_
  replace hF := callN_some hF; obtain ⟨r8, h_3, e4, hF⟩ := hF
  refine WL.call (hc.ok w0) (d := (some 8)) (by kernel_rfl) (by kernel_rfl) (by kernel_rfl) e4 ?_
  replace hF := obind_some hF; obtain ⟨v9, e5, hF⟩ := hF
  replace hF := obind_some hF; obtain ⟨t9, c6, hF⟩ := hF
  have c6 := avInt_some c6
  subst c6
  refine WL.val (d := (some 9)) (v := .int .i64 t9) (h' := h_3) (by kernel_rfl) (by kernel_rfl) (Eq.trans (by kernel_rfl) (extract_tup (h := h_3) e5)) ?_
  replace hF := obind_some hF; obtain ⟨v10, e7, hF⟩ := hF
  replace hF := obind_some hF; obtain ⟨t10, c8, hF⟩ := hF
  have c8 := avInt_some c8
  subst c8
  refine WL.val (d := (some 10)) (v := .int .i64 t10) (h' := h_3) (by kernel_rfl) (by kernel_rfl) (Eq.trans (by kernel_rfl) (extract_tup (h := h_3) e7)) ?_
  refine WL.val (d := (some 4)) (v := .int .i64 t9) (h' := h_3) (by kernel_rfl) (by kernel_rfl) (by kernel_rfl) ?_
  refine WL.val (d := (some 5)) (v := .int .i64 t10) (h' := h_3) (by kernel_rfl) (by kernel_rfl) (by kernel_rfl) ?_
  refine WL.nil (by kernel_rfl) ?_
  refine Go.weaken (l' := [(4, .int .i64 t9), (5, .int .i64 t10)]) (Fr.sub_cons (by kernel_rfl) (Fr.sub_cons (by kernel_rfl) (Fr.sub_nil _))) ?_
  refine n2 ?_
  refine W.ret (by kernel_rfl) ?_
  obtain ⟨hF, hF2⟩ := ret_inj hF; subst hF; subst hF2
  exact leave_of (rs := [.tmp 4, .tmp 5]) (vs := [.int .i64 t9, .int .i64 t10]) (by kernel_rfl) (res_tmp (by kernel_rfl) (res_tmp (by kernel_rfl) res_nil)) (by kernel_rfl)
noncomputable def lex_wordEnd_fn (call : CallF) (n : Nat) : FnT := fun args h => match args with
  | [x0, x1] => obind (avStr x0) fun t0 => obind (avInt .i64 x1) fun t1 => lex_wordEnd call n t0 t1 h
  | _ => none
theorem lex_wordEnd_fn_eq (call : CallF) (n : Nat) (t0 : Bytes) (t1 : Int) (h : AHeap) : lex_wordEnd_fn call n [strA t0, .int .i64 t1] h = lex_wordEnd call n t0 t1 h :=
  (Eq.trans (obind_eq (fun t0 => obind (avInt .i64 (.int .i64 t1)) fun t1 => lex_wordEnd call n t0 t1 h) (avStr_str t0)) (Eq.trans (obind_eq (fun t1 => lex_wordEnd call n t0 t1 h) (avInt_int .i64 t1)) rfl))
theorem lex_wordEnd_holds {call : CallF} (hc : SaysAll Try.prog call) (n : Nat) : Holds Try.prog 17 (lex_wordEnd_fn call n) := by
  intro args h r h2 e
  unfold lex_wordEnd_fn at e
  split at e
  · replace e := obind_some e; obtain ⟨t0, c0, e⟩ := e; have c0 := avStr_some c0; subst c0
    replace e := obind_some e; obtain ⟨t1, c1, e⟩ := e; have c1 := avInt_some c1; subst c1
    exact lex_wordEnd_ok hc e
  · cases e

noncomputable def lex_wordEnd_1 (call : CallF) (_ : Nat) (t0 : Int) (h : AHeap) : R :=
  callN (call 15 [.int .u8 t0] h) fun r4 h_3 =>
  obind (avBool r4) fun t4 =>
  lett (fun (t8 : Bool) (h_6 : AHeap) =>
    lett (fun (t12 : Bool) (h_9 : AHeap) =>
      lett (fun (t16 : Bool) (h_12 : AHeap) =>
        some (.ret (.bool t16), h_12)) fun j16 =>
      ifB t12
      (
        j16 true h_9)
      (
        lett ((t0 : Int) == 45) fun (t15 : Bool) =>
        j16 t15 h_9)) fun j12 =>
    ifB t8
    (
      j12 true h_6)
    (
      lett ((t0 : Int) == 95) fun (t11 : Bool) =>
      j12 t11 h_6)) fun j8 =>
  ifB t4
  (
    j8 true h_3)
  (
    callN (call 29 [.int .u8 t0] h_3) fun r7 h_17 =>
    obind (avBool r7) fun t7 =>
    j8 t7 h_17)
set_option maxHeartbeats 4000000 in
set_option maxRecDepth 20000 in
theorem lex_wordEnd_1_ok {call : CallF} (hc : SaysAll Try.prog call) {n : Nat} {t0 : Int} {h : AHeap} {rR : ARes} {hR : AHeap} (hF : lex_wordEnd_1 call n t0 h = some (rR, hR)) : Says Try.prog 28 [.int .u8 t0] h rR hR := by
  unfold lex_wordEnd_1 at hF
  refine says_of (fn := Try.f28) Try.func28 (c := codeOf Try.f28) (by kernel_rfl) (by kernel_rfl) (fun w0 m0 => ?_)
  refine W.weaken (l' := [(0, .int .u8 t0)]) (Fr.sub_cons (by kernel_rfl) (Fr.sub_nil _)) ?_
  refine W.seqK (by kernel_rfl) (fun K1 n1 e1 r1 p1 => ?_)
  refine W.region (by kernel_rfl) ?_
  refine WL.val (d := (some 2)) (v := .bool false) (h' := h) (by kernel_rfl) (by kernel_rfl) (by kernel_rfl) ?_
  refine WL.nil (by kernel_rfl) ?_
  refine Go.weaken (l' := [(0, .int .u8 t0)]) (Fr.sub_cons (by kernel_rfl) (Fr.sub_nil _)) ?_
  refine n1 ?_
  refine W.seqK (by kernel_rfl) (fun K2 n2 e2 r2 p2 => ?_)
  refine W.region (by kernel_rfl) ?_
  refine WL.val (d := (some 3)) (v := .int .u8 t0) (h' := h) (by kernel_rfl) (by kernel_rfl) (by kernel_rfl) ?_
  replace hF := callN_some hF; obtain ⟨r4, h_3, e4, hF⟩ := hF
  replace hF := obind_some hF; obtain ⟨t4, c5, hF⟩ := hF
  have c5 := avBool_some c5
  subst c5
  refine WL.call (hc.ok w0) (d := (some 4)) (by kernel_rfl) (by kernel_rfl) (by kernel_rfl) e4 ?_
  refine WL.val (d := (some 5)) (v := .bool t4) (h' := h_3) (by kernel_rfl) (by kernel_rfl) (by kernel_rfl) ?_
  replace hF := lett_some hF; obtain ⟨j8, e7, hF⟩ := hF
  have J8 : ∀ (t8 : Bool) (h_6 : AHeap), j8 t8 h_6 = some (rR, hR) → WL Try.prog w0 m0 (Func.ntmps Try.f28) (Code.ops (Code.p1 (Code.p2 (codeOf Try.f28)))) 6 K2 [(0, .int .u8 t0), (8, .bool t8)] [] h_6 := by
    intro t8 h_6 hF
    rw [e7] at hF
    refine WL.val (d := (some 9)) (v := .bool t8) (h' := h_6) (by kernel_rfl) (by kernel_rfl) (by kernel_rfl) ?_
    replace hF := lett_some hF; obtain ⟨j12, e10, hF⟩ := hF
    have J11 : ∀ (t12 : Bool) (h_9 : AHeap), j12 t12 h_9 = some (rR, hR) → WL Try.prog w0 m0 (Func.ntmps Try.f28) (Code.ops (Code.p1 (Code.p2 (codeOf Try.f28)))) 10 K2 [(0, .int .u8 t0), (12, .bool t12)] [] h_9 := by
      intro t12 h_9 hF
      rw [e10] at hF
      refine WL.val (d := (some 13)) (v := .bool t12) (h' := h_9) (by kernel_rfl) (by kernel_rfl) (by kernel_rfl) ?_
      replace hF := lett_some hF; obtain ⟨j16, e13, hF⟩ := hF
      have J14 : ∀ (t16 : Bool) (h_12 : AHeap), j16 t16 h_12 = some (rR, hR) → WL Try.prog w0 m0 (Func.ntmps Try.f28) (Code.ops (Code.p1 (Code.p2 (codeOf Try.f28)))) 14 K2 [(16, .bool t16)] [] h_12 := by
        intro t16 h_12 hF
        rw [e13] at hF
        refine WL.val (d := (some 2)) (v := .bool t16) (h' := h_12) (by kernel_rfl) (by kernel_rfl) (by kernel_rfl) ?_
        refine WL.nil (by kernel_rfl) ?_
        refine Go.weaken (l' := [(2, .bool t16)]) (Fr.sub_cons (by kernel_rfl) (Fr.sub_nil _)) ?_
        refine n2 ?_
        refine W.ret (by kernel_rfl) ?_
        obtain ⟨hF, hF2⟩ := ret_inj hF; subst hF; subst hF2
        exact leave_of (rs := [.tmp 2]) (vs := [.bool t16]) (by kernel_rfl) (res_tmp (by kernel_rfl) res_nil) (by kernel_rfl)
      cases t12 with
      | true =>
        replace hF := ifB_t hF
        refine WL.not (d := (some 14)) (by kernel_rfl) (by kernel_rfl) ?_
        refine WL.not (d := (some 15)) (by kernel_rfl) (by kernel_rfl) ?_
        refine WL.val (d := (some 16)) (v := .bool true) (h' := h_9) (by kernel_rfl) (by kernel_rfl) (by kernel_rfl) ?_
        exact WL.weaken (Fr.sub_cons (by kernel_rfl) (Fr.sub_nil _)) (J14 _ _ hF)
      | false =>
        replace hF := ifB_f hF
        refine WL.val (d := (some 14)) (v := .int .u8 t0) (h' := h_9) (by kernel_rfl) (by kernel_rfl) (by kernel_rfl) ?_
        replace hF := lett_some hF; obtain ⟨t15, e15, hF⟩ := hF
        refine WL.val (d := (some 15)) (v := .bool t15) (h' := h_9) (by kernel_rfl) (by kernel_rfl) (val_of AV.bool e15 (by kernel_rfl)) ?_
        refine WL.val (d := (some 16)) (v := .bool t15) (h' := h_9) (by kernel_rfl) (by kernel_rfl) (by kernel_rfl) ?_
        exact WL.weaken (Fr.sub_cons (by kernel_rfl) (Fr.sub_nil _)) (J14 _ _ hF)
    cases t8 with
    | true =>
      replace hF := ifB_t hF
      refine WL.not (d := (some 10)) (by kernel_rfl) (by kernel_rfl) ?_
      refine WL.not (d := (some 11)) (by kernel_rfl) (by kernel_rfl) ?_
      refine WL.val (d := (some 12)) (v := .bool true) (h' := h_6) (by kernel_rfl) (by kernel_rfl) (by kernel_rfl) ?_
      exact WL.weaken (Fr.sub_cons (by kernel_rfl) (Fr.sub_cons (by kernel_rfl) (Fr.sub_nil _))) (J11 _ _ hF)
    | false =>
      replace hF := ifB_f hF
      refine WL.val (d := (some 10)) (v := .int .u8 t0) (h' := h_6) (by kernel_rfl) (by kernel_rfl) (by kernel_rfl) ?_
      replace hF := lett_some hF; obtain ⟨t11, e16, hF⟩ := hF
      refine WL.val (d := (some 11)) (v := .bool t11) (h' := h_6) (by kernel_rfl) (by kernel_rfl) (val_of AV.bool e16 (by kernel_rfl)) ?_
      refine WL.val (d := (some 12)) (v := .bool t11) (h' := h_6) (by kernel_rfl) (by kernel_rfl) (by kernel_rfl) ?_
      exact WL.weaken (Fr.sub_cons (by kernel_rfl) (Fr.sub_cons (by kernel_rfl) (Fr.sub_nil _))) (J11 _ _ hF)
  cases t4 with
  | true =>
    replace hF := ifB_t hF
    refine WL.not (d := (some 6)) (by kernel_rfl) (by kernel_rfl) ?_
    refine WL.not (d := (some 7)) (by kernel_rfl) (by kernel_rfl) ?_
    refine WL.val (d := (some 8)) (v := .bool true) (h' := h_3) (by kernel_rfl) (by kernel_rfl) (by kernel_rfl) ?_
    exact WL.weaken (Fr.sub_cons (by kernel_rfl) (Fr.sub_cons (by kernel_rfl) (Fr.sub_nil _))) (J8 _ _ hF)
  | false =>
    replace hF := ifB_f hF
    refine WL.val (d := (some 6)) (v := .int .u8 t0) (h' := h_3) (by kernel_rfl) (by kernel_rfl) (by kernel_rfl) ?_
    replace hF := callN_some hF; obtain ⟨r7, h_17, e18, hF⟩ := hF
    replace hF := obind_some hF; obtain ⟨t7, c19, hF⟩ := hF
    have c19 := avBool_some c19
    subst c19
    refine WL.call (hc.ok w0) (d := (some 7)) (by kernel_rfl) (by kernel_rfl) (by kernel_rfl) e18 ?_
    refine WL.val (d := (some 8)) (v := .bool t7) (h' := h_17) (by kernel_rfl) (by kernel_rfl) (by kernel_rfl) ?_
    exact WL.weaken (Fr.sub_cons (by kernel_rfl) (Fr.sub_cons (by kernel_rfl) (Fr.sub_nil _))) (J8 _ _ hF)
noncomputable def lex_wordEnd_1_fn (call : CallF) (n : Nat) : FnT := fun args h => match args with
  | [x0] => obind (avInt .u8 x0) fun t0 => lex_wordEnd_1 call n t0 h
  | _ => none
theorem lex_wordEnd_1_fn_eq (call : CallF) (n : Nat) (t0 : Int) (h : AHeap) : lex_wordEnd_1_fn call n [.int .u8 t0] h = lex_wordEnd_1 call n t0 h :=
  (Eq.trans (obind_eq (fun t0 => lex_wordEnd_1 call n t0 h) (avInt_int .u8 t0)) rfl)
theorem lex_wordEnd_1_holds {call : CallF} (hc : SaysAll Try.prog call) (n : Nat) : Holds Try.prog 28 (lex_wordEnd_1_fn call n) := by
  intro args h r h2 e
  unfold lex_wordEnd_1_fn at e
  split at e
  · replace e := obind_some e; obtain ⟨t0, c0, e⟩ := e; have c0 := avInt_some c0; subst c0
    exact lex_wordEnd_1_ok hc e
  · cases e

noncomputable def lex_run_L0b (call : CallF) (t0 : Bytes) (t1 : Int) (t2 : Int) (t3 : AV) (k5 : Int → AHeap → R) (self : Int → AHeap → R) (t8_9 : Int) (h_10 : AHeap) : R :=
  lett (decide (t8_9 < (lenS t0))) fun (t14 : Bool) =>
  lett (fun (t21 : Bool) (h_14 : AHeap) =>
    ifB t21
    (
      lett (IntKind.i64.wrap (t8_9 - t1)) fun (t24 : Int) =>
      lett ((t24 : Int) == t2) fun (t26 : Bool) =>
      ifB t26
      (
        some (.ret (.tup [.int .i64 t8_9, .int .i64 3]), h_14))
      (
        lett (IntKind.i64.wrap (t8_9 + 1)) fun (t29 : Int) =>
        self t29 h_14))
    (
      k5 t8_9 h_14)) fun j21 =>
  ifB t14
  (
    obind (idxS t0 t8_9) fun t19 =>
    callN (dynC Try.prog call t3 [.int .u8 t19] h_10) fun r20 h_25 =>
    obind (avBool r20) fun t20 =>
    j21 t20 h_25)
  (
    j21 false h_10)
noncomputable def lex_run_L0 (call : CallF) (t0 : Bytes) (t1 : Int) (t2 : Int) (t3 : AV) (k5 : Int → AHeap → R) : Nat → Int → AHeap → R := iterR (fun _ _ => none) (lex_run_L0b call t0 t1 t2 t3 k5)
theorem lex_run_L0_s (call : CallF) (t0 : Bytes) (t1 : Int) (t2 : Int) (t3 : AV) (k5 : Int → AHeap → R) (m : Nat) : lex_run_L0 call t0 t1 t2 t3 k5 (m + 1) = lex_run_L0b call t0 t1 t2 t3 k5 (lex_run_L0 call t0 t1 t2 t3 k5 m) := rfl
noncomputable def lex_run (call : CallF) (n : Nat) (t0 : Bytes) (t1 : Int) (t2 : Int) (t3 : AV) (h : AHeap) : R :=
  lett (fun (t8 : Int) (h_6 : AHeap) =>
    some (.ret (.tup [.int .i64 t8, .int .i64 0]), h_6)) fun k5 =>
  lex_run_L0 call t0 t1 t2 t3 k5 n t1 h
set_option maxHeartbeats 4000000 in
set_option maxRecDepth 20000 in
theorem lex_run_ok {call : CallF} (hc : SaysAll Try.prog call) {n : Nat} {t0 : Bytes} {t1 : Int} {t2 : Int} {t3 : AV} {h : AHeap} {rR : ARes} {hR : AHeap} (hF : lex_run call n t0 t1 t2 t3 h = some (rR, hR)) : Says Try.prog 27 [strA t0, .int .i64 t1, .int .i64 t2, t3] h rR hR := by
  unfold lex_run at hF
  refine says_of (fn := Try.f27) Try.func27 (c := codeOf Try.f27) (by kernel_rfl) (by kernel_rfl) (fun w0 m0 => ?_)
  refine W.weaken (l' := [(0, strA t0), (1, .int .i64 t1), (2, .int .i64 t2), (3, t3)]) (Fr.sub_cons (by kernel_rfl) (Fr.sub_cons (by kernel_rfl) (Fr.sub_cons (by kernel_rfl) (Fr.sub_cons (by kernel_rfl) (Fr.sub_nil _))))) ?_
  refine W.seqK (by kernel_rfl) (fun K1 n1 e1 r1 p1 => ?_)
  refine W.region (by kernel_rfl) ?_
  refine WL.val (d := (some 8)) (v := .int .i64 0) (h' := h) (by kernel_rfl) (by kernel_rfl) (by kernel_rfl) ?_
  refine WL.val (d := (some 9)) (v := .int .i64 0) (h' := h) (by kernel_rfl) (by kernel_rfl) (by kernel_rfl) ?_
  refine WL.nil (by kernel_rfl) ?_
  refine Go.weaken (l' := [(0, strA t0), (1, .int .i64 t1), (2, .int .i64 t2), (3, t3)]) (Fr.sub_cons (by kernel_rfl) (Fr.sub_cons (by kernel_rfl) (Fr.sub_cons (by kernel_rfl) (Fr.sub_cons (by kernel_rfl) (Fr.sub_nil _))))) ?_
  refine n1 ?_
  refine W.seqK (by kernel_rfl) (fun K2 n2 e2 r2 p2 => ?_)
  refine W.region (by kernel_rfl) ?_
  refine WL.val (d := (some 10)) (v := .int .i64 t1) (h' := h) (by kernel_rfl) (by kernel_rfl) (by kernel_rfl) ?_
  refine WL.val (d := (some 8)) (v := .int .i64 t1) (h' := h) (by kernel_rfl) (by kernel_rfl) (by kernel_rfl) ?_
  refine WL.nil (by kernel_rfl) ?_
  refine Go.weaken (l' := [(0, strA t0), (1, .int .i64 t1), (2, .int .i64 t2), (3, t3), (8, .int .i64 t1)]) (Fr.sub_cons (by kernel_rfl) (Fr.sub_cons (by kernel_rfl) (Fr.sub_cons (by kernel_rfl) (Fr.sub_cons (by kernel_rfl) (Fr.sub_cons (by kernel_rfl) (Fr.sub_nil _)))))) ?_
  refine n2 ?_
  refine W.seqK (by kernel_rfl) (fun K3 n3 e3 r3 p3 => ?_)
  replace hF := lett_some hF; obtain ⟨k5, e5, hF⟩ := hF
  have J5 : ∀ (t8 : Int) (h_6 : AHeap), k5 t8 h_6 = some (rR, hR) → Go w0 m0 (Func.ntmps Try.f27) (K3 .normal) [(8, .int .i64 t8)] [] h_6 := by
    intro t8 h_6 hF
    rw [e5] at hF
    refine n3 ?_
    refine W.seqK (by kernel_rfl) (fun K7 n7 e7 r7 p7 => ?_)
    refine W.region (by kernel_rfl) ?_
    refine WL.val (d := (some 30)) (v := .int .i64 t8) (h' := h_6) (by kernel_rfl) (by kernel_rfl) (by kernel_rfl) ?_
    refine WL.val (d := (some 8)) (v := .int .i64 t8) (h' := h_6) (by kernel_rfl) (by kernel_rfl) (by kernel_rfl) ?_
    refine WL.val (d := (some 9)) (v := .int .i64 0) (h' := h_6) (by kernel_rfl) (by kernel_rfl) (by kernel_rfl) ?_
    refine WL.nil (by kernel_rfl) ?_
    refine Go.weaken (l' := [(8, .int .i64 t8), (9, .int .i64 0)]) (Fr.sub_cons (by kernel_rfl) (Fr.sub_cons (by kernel_rfl) (Fr.sub_nil _))) ?_
    refine n7 ?_
    refine W.ret (by kernel_rfl) ?_
    obtain ⟨hF, hF2⟩ := ret_inj hF; subst hF; subst hF2
    exact leave_of (rs := [.tmp 8, .tmp 9]) (vs := [.int .i64 t8, .int .i64 0]) (by kernel_rfl) (res_tmp (by kernel_rfl) (res_tmp (by kernel_rfl) res_nil)) (by kernel_rfl)
  refine W.blockK (by kernel_rfl) (fun K4 n4 s4 o4 r4 p4 => ?_)
  refine W.loopK (by kernel_rfl) (fun I8 K8 b8 n8 e8 r8 p8 => ?_)
  have L8 : ∀ (m : Nat) (t8_9 : Int) (h_10 : AHeap), lex_run_L0 call t0 t1 t2 t3 k5 m t8_9 h_10 = some (rR, hR) → Go w0 m0 (Func.ntmps Try.f27) I8 [(0, strA t0), (1, .int .i64 t1), (2, .int .i64 t2), (3, t3), (8, .int .i64 t8_9)] [] h_10 := by
    intro m
    induction m with
    | zero => intro t8_9 h_10 hF; cases hF
    | succ m ih8 =>
      intro t8_9 h_10 hF
      rw [lex_run_L0_s] at hF; unfold lex_run_L0b at hF
      refine b8 ?_
      refine W.seqK (by kernel_rfl) (fun K11 n11 e11 r11 p11 => ?_)
      refine W.seqK (by kernel_rfl) (fun K12 n12 e12 r12 p12 => ?_)
      refine W.region (by kernel_rfl) ?_
      refine WL.val (d := (some 11)) (v := .int .i64 t8_9) (h' := h_10) (by kernel_rfl) (by kernel_rfl) (by kernel_rfl) ?_
      refine WL.val (d := (some 12)) (v := strA t0) (h' := h_10) (by kernel_rfl) (by kernel_rfl) (by kernel_rfl) ?_
      refine WL.val (d := (some 13)) (v := .int .i64 (lenS t0)) (h' := h_10) (by kernel_rfl) (by kernel_rfl) (by kernel_rfl) ?_
      replace hF := lett_some hF; obtain ⟨t14, e13, hF⟩ := hF
      refine WL.val (d := (some 14)) (v := .bool t14) (h' := h_10) (by kernel_rfl) (by kernel_rfl) (val_of AV.bool e13 (by kernel_rfl)) ?_
      refine WL.val (d := (some 15)) (v := .bool t14) (h' := h_10) (by kernel_rfl) (by kernel_rfl) (by kernel_rfl) ?_
      replace hF := lett_some hF; obtain ⟨j21, e15, hF⟩ := hF
      have J16 : ∀ (t21 : Bool) (h_14 : AHeap), j21 t21 h_14 = some (rR, hR) → WL Try.prog w0 m0 (Func.ntmps Try.f27) (Code.ops (Code.p1 (Code.p1 (Code.p1 (Code.p1 (Code.p1 (Code.p2 (Code.p2 (codeOf Try.f27))))))))) 11 K12 [(0, strA t0), (1, .int .i64 t1), (2, .int .i64 t2), (3, t3), (8, .int .i64 t8_9), (21, .bool t21)] [] h_14 := by
        intro t21 h_14 hF
        rw [e15] at hF
        refine WL.nil (by kernel_rfl) ?_
        refine Go.weaken (l' := [(0, strA t0), (1, .int .i64 t1), (2, .int .i64 t2), (3, t3), (8, .int .i64 t8_9), (21, .bool t21)]) (Fr.sub_cons (by kernel_rfl) (Fr.sub_cons (by kernel_rfl) (Fr.sub_cons (by kernel_rfl) (Fr.sub_cons (by kernel_rfl) (Fr.sub_cons (by kernel_rfl) (Fr.sub_cons (by kernel_rfl) (Fr.sub_nil _))))))) ?_
        refine n12 ?_
        cases t21 with
        | true =>
          replace hF := ifB_t hF
          refine W.cond_true (by kernel_rfl) (by kernel_rfl) ?_
          refine W.skip (by kernel_rfl) ?_
          refine n11 ?_
          refine W.blockK (by kernel_rfl) (fun K17 n17 s17 o17 r17 p17 => ?_)
          refine W.seqK (by kernel_rfl) (fun K18 n18 e18 r18 p18 => ?_)
          refine W.seqK (by kernel_rfl) (fun K19 n19 e19 r19 p19 => ?_)
          refine W.region (by kernel_rfl) ?_
          refine WL.val (d := (some 22)) (v := .int .i64 t8_9) (h' := h_14) (by kernel_rfl) (by kernel_rfl) (by kernel_rfl) ?_
          refine WL.val (d := (some 23)) (v := .int .i64 t1) (h' := h_14) (by kernel_rfl) (by kernel_rfl) (by kernel_rfl) ?_
          replace hF := lett_some hF; obtain ⟨t24, e20, hF⟩ := hF
          refine WL.val (d := (some 24)) (v := .int .i64 t24) (h' := h_14) (by kernel_rfl) (by kernel_rfl) (val_of (AV.int .i64) e20 (by kernel_rfl)) ?_
          refine WL.val (d := (some 25)) (v := .int .i64 t2) (h' := h_14) (by kernel_rfl) (by kernel_rfl) (by kernel_rfl) ?_
          replace hF := lett_some hF; obtain ⟨t26, e21, hF⟩ := hF
          refine WL.val (d := (some 26)) (v := .bool t26) (h' := h_14) (by kernel_rfl) (by kernel_rfl) (val_of AV.bool e21 (by kernel_rfl)) ?_
          refine WL.nil (by kernel_rfl) ?_
          refine Go.weaken (l' := [(0, strA t0), (1, .int .i64 t1), (2, .int .i64 t2), (3, t3), (8, .int .i64 t8_9), (26, .bool t26)]) (Fr.sub_cons (by kernel_rfl) (Fr.sub_cons (by kernel_rfl) (Fr.sub_cons (by kernel_rfl) (Fr.sub_cons (by kernel_rfl) (Fr.sub_cons (by kernel_rfl) (Fr.sub_cons (by kernel_rfl) (Fr.sub_nil _))))))) ?_
          refine n19 ?_
          cases t26 with
          | true =>
            replace hF := ifB_t hF
            refine W.cond_true (by kernel_rfl) (by kernel_rfl) ?_
            refine W.seqK (by kernel_rfl) (fun K22 n22 e22 r22 p22 => ?_)
            refine W.region (by kernel_rfl) ?_
            refine WL.val (d := (some 27)) (v := .int .i64 t8_9) (h' := h_14) (by kernel_rfl) (by kernel_rfl) (by kernel_rfl) ?_
            refine WL.val (d := (some 8)) (v := .int .i64 t8_9) (h' := h_14) (by kernel_rfl) (by kernel_rfl) (by kernel_rfl) ?_
            refine WL.val (d := (some 9)) (v := .int .i64 3) (h' := h_14) (by kernel_rfl) (by kernel_rfl) (by kernel_rfl) ?_
            refine WL.nil (by kernel_rfl) ?_
            refine Go.weaken (l' := [(8, .int .i64 t8_9), (9, .int .i64 3)]) (Fr.sub_cons (by kernel_rfl) (Fr.sub_cons (by kernel_rfl) (Fr.sub_nil _))) ?_
            refine n22 ?_
            refine W.ret (by kernel_rfl) ?_
            refine r18 ?_
            refine r17 ?_
            refine r8 ?_
            refine r4 ?_
            refine r3 ?_
            obtain ⟨hF, hF2⟩ := ret_inj hF; subst hF; subst hF2
            exact leave_of (rs := [.tmp 8, .tmp 9]) (vs := [.int .i64 t8_9, .int .i64 3]) (by kernel_rfl) (res_tmp (by kernel_rfl) (res_tmp (by kernel_rfl) res_nil)) (by kernel_rfl)
          | false =>
            replace hF := ifB_f hF
            refine W.cond_false (by kernel_rfl) (by kernel_rfl) ?_
            refine W.skip (by kernel_rfl) ?_
            refine n18 ?_
            refine W.region (by kernel_rfl) ?_
            refine WL.val (d := (some 28)) (v := .int .i64 t8_9) (h' := h_14) (by kernel_rfl) (by kernel_rfl) (by kernel_rfl) ?_
            replace hF := lett_some hF; obtain ⟨t29, e23, hF⟩ := hF
            refine WL.val (d := (some 29)) (v := .int .i64 t29) (h' := h_14) (by kernel_rfl) (by kernel_rfl) (val_of (AV.int .i64) e23 (by kernel_rfl)) ?_
            refine WL.val (d := (some 8)) (v := .int .i64 t29) (h' := h_14) (by kernel_rfl) (by kernel_rfl) (by kernel_rfl) ?_
            refine WL.nil (by kernel_rfl) ?_
            refine Go.weaken (l' := [(0, strA t0), (1, .int .i64 t1), (2, .int .i64 t2), (3, t3), (8, .int .i64 t29)]) (Fr.sub_cons (by kernel_rfl) (Fr.sub_cons (by kernel_rfl) (Fr.sub_cons (by kernel_rfl) (Fr.sub_cons (by kernel_rfl) (Fr.sub_cons (by kernel_rfl) (Fr.sub_nil _)))))) ?_
            refine n17 ?_
            refine n8 ?_
            exact Go.weaken (Fr.sub_cons (by kernel_rfl) (Fr.sub_cons (by kernel_rfl) (Fr.sub_cons (by kernel_rfl) (Fr.sub_cons (by kernel_rfl) (Fr.sub_cons (by kernel_rfl) (Fr.sub_nil _)))))) (ih8 _ _ hF)
        | false =>
          replace hF := ifB_f hF
          refine W.cond_false (by kernel_rfl) (by kernel_rfl) ?_
          refine W.exit (by kernel_rfl) ?_
          refine e11 ?_
          refine e8 ?_
          refine s4 (by kernel_rfl) ?_
          exact Go.weaken (Fr.sub_cons (by kernel_rfl) (Fr.sub_nil _)) (J5 _ _ hF)
      cases t14 with
      | true =>
        replace hF := ifB_t hF
        refine WL.val (d := (some 16)) (v := t3) (h' := h_10) (by kernel_rfl) (by kernel_rfl) (by kernel_rfl) ?_
        refine WL.val (d := (some 17)) (v := strA t0) (h' := h_10) (by kernel_rfl) (by kernel_rfl) (by kernel_rfl) ?_
        refine WL.val (d := (some 18)) (v := .int .i64 t8_9) (h' := h_10) (by kernel_rfl) (by kernel_rfl) (by kernel_rfl) ?_
        replace hF := obind_some hF; obtain ⟨t19, e24, hF⟩ := hF
        refine WL.val (d := (some 19)) (v := .int .u8 t19) (h' := h_10) (by kernel_rfl) (by kernel_rfl) (Eq.trans (by kernel_rfl) (index_str (P := Try.prog) (h := h_10) (t := 9) (k := .i64) (by kernel_rfl) e24)) ?_
        replace hF := callN_some hF; obtain ⟨r20, h_25, e26, hF⟩ := hF
        replace hF := obind_some hF; obtain ⟨t20, c27, hF⟩ := hF
        have c27 := avBool_some c27
        subst c27
        rcases dynC_some e26 with ⟨d28g, d28as, d28h, d281, d282⟩ | ⟨d28v, d28h, d281, d282⟩
        rotate_left
        · cases d282
          refine WL.val (d := (some 20)) (by kernel_rfl) (by kernel_rfl) (Eq.trans (by kernel_rfl) d281) ?_
          refine WL.val (d := (some 21)) (v := .bool t20) (h' := h_25) (by kernel_rfl) (by kernel_rfl) (by kernel_rfl) ?_
          exact WL.weaken (Fr.sub_cons (by kernel_rfl) (Fr.sub_cons (by kernel_rfl) (Fr.sub_cons (by kernel_rfl) (Fr.sub_cons (by kernel_rfl) (Fr.sub_cons (by kernel_rfl) (Fr.sub_cons (by kernel_rfl) (Fr.sub_nil _))))))) (J16 _ _ hF)
        · refine WL.call (hc.ok w0) (d := (some 20)) (by kernel_rfl) (by kernel_rfl) (Eq.trans (by kernel_rfl) d281) d282 ?_
          refine WL.val (d := (some 21)) (v := .bool t20) (h' := h_25) (by kernel_rfl) (by kernel_rfl) (by kernel_rfl) ?_
          exact WL.weaken (Fr.sub_cons (by kernel_rfl) (Fr.sub_cons (by kernel_rfl) (Fr.sub_cons (by kernel_rfl) (Fr.sub_cons (by kernel_rfl) (Fr.sub_cons (by kernel_rfl) (Fr.sub_cons (by kernel_rfl) (Fr.sub_nil _))))))) (J16 _ _ hF)
      | false =>
        replace hF := ifB_f hF
        refine WL.not (d := (some 16)) (by kernel_rfl) (by kernel_rfl) ?_
        refine WL.not (d := (some 17)) (by kernel_rfl) (by kernel_rfl) ?_
        refine WL.not (d := (some 18)) (by kernel_rfl) (by kernel_rfl) ?_
        refine WL.not (d := (some 19)) (by kernel_rfl) (by kernel_rfl) ?_
        refine WL.not (d := (some 20)) (by kernel_rfl) (by kernel_rfl) ?_
        refine WL.val (d := (some 21)) (v := .bool false) (h' := h_10) (by kernel_rfl) (by kernel_rfl) (by kernel_rfl) ?_
        exact WL.weaken (Fr.sub_cons (by kernel_rfl) (Fr.sub_cons (by kernel_rfl) (Fr.sub_cons (by kernel_rfl) (Fr.sub_cons (by kernel_rfl) (Fr.sub_cons (by kernel_rfl) (Fr.sub_cons (by kernel_rfl) (Fr.sub_nil _))))))) (J16 _ _ hF)
  exact Go.weaken (Fr.sub_cons (by kernel_rfl) (Fr.sub_cons (by kernel_rfl) (Fr.sub_cons (by kernel_rfl) (Fr.sub_cons (by kernel_rfl) (Fr.sub_cons (by kernel_rfl) (Fr.sub_nil _)))))) (L8 _ _ _ hF)
noncomputable def lex_run_fn (call : CallF) (n : Nat) : FnT := fun args h => match args with
  | [x0, x1, x2, x3] => obind (avStr x0) fun t0 => obind (avInt .i64 x1) fun t1 => obind (avInt .i64 x2) fun t2 => lex_run call n t0 t1 t2 x3 h
  | _ => none
theorem lex_run_fn_eq (call : CallF) (n : Nat) (t0 : Bytes) (t1 : Int) (t2 : Int) (t3 : AV) (h : AHeap) : lex_run_fn call n [strA t0, .int .i64 t1, .int .i64 t2, t3] h = lex_run call n t0 t1 t2 t3 h :=
  (Eq.trans (obind_eq (fun t0 => obind (avInt .i64 (.int .i64 t1)) fun t1 => obind (avInt .i64 (.int .i64 t2)) fun t2 => lex_run call n t0 t1 t2 t3 h) (avStr_str t0)) (Eq.trans (obind_eq (fun t1 => obind (avInt .i64 (.int .i64 t2)) fun t2 => lex_run call n t0 t1 t2 t3 h) (avInt_int .i64 t1)) (Eq.trans (obind_eq (fun t2 => lex_run call n t0 t1 t2 t3 h) (avInt_int .i64 t2)) rfl)))
theorem lex_run_holds {call : CallF} (hc : SaysAll Try.prog call) (n : Nat) : Holds Try.prog 27 (lex_run_fn call n) := by
  intro args h r h2 e
  unfold lex_run_fn at e
  split at e
  · replace e := obind_some e; obtain ⟨t0, c0, e⟩ := e; have c0 := avStr_some c0; subst c0
    replace e := obind_some e; obtain ⟨t1, c1, e⟩ := e; have c1 := avInt_some c1; subst c1
    replace e := obind_some e; obtain ⟨t2, c2, e⟩ := e; have c2 := avInt_some c2; subst c2
    exact lex_run_ok hc e
  · cases e

noncomputable def lex_small (_ : CallF) (_ : Nat) (t0 : Int) (h : AHeap) : R :=
  lett (decide (t0 ≥ 97)) fun (t4 : Bool) =>
  lett (fun (t8 : Bool) (h_4 : AHeap) =>
    some (.ret (.bool t8), h_4)) fun j8 =>
  ifB t4
  (
    lett (decide (t0 ≤ 122)) fun (t7 : Bool) =>
    j8 t7 h)
  (
    j8 false h)
set_option maxHeartbeats 4000000 in
set_option maxRecDepth 20000 in
theorem lex_small_ok {call : CallF} (_ : SaysAll Try.prog call) {n : Nat} {t0 : Int} {h : AHeap} {rR : ARes} {hR : AHeap} (hF : lex_small call n t0 h = some (rR, hR)) : Says Try.prog 15 [.int .u8 t0] h rR hR := by
  unfold lex_small at hF
  refine says_of (fn := Try.f15) Try.func15 (c := codeOf Try.f15) (by kernel_rfl) (by kernel_rfl) (fun w0 m0 => ?_)
  refine W.weaken (l' := [(0, .int .u8 t0)]) (Fr.sub_cons (by kernel_rfl) (Fr.sub_nil _)) ?_
  refine W.seqK (by kernel_rfl) (fun K1 n1 e1 r1 p1 => ?_)
  refine W.region (by kernel_rfl) ?_
  refine WL.val (d := (some 2)) (v := .bool false) (h' := h) (by kernel_rfl) (by kernel_rfl) (by kernel_rfl) ?_
  refine WL.nil (by kernel_rfl) ?_
  refine Go.weaken (l' := [(0, .int .u8 t0)]) (Fr.sub_cons (by kernel_rfl) (Fr.sub_nil _)) ?_
  refine n1 ?_
  refine W.seqK (by kernel_rfl) (fun K2 n2 e2 r2 p2 => ?_)
  refine W.region (by kernel_rfl) ?_
  refine WL.val (d := (some 3)) (v := .int .u8 t0) (h' := h) (by kernel_rfl) (by kernel_rfl) (by kernel_rfl) ?_
  replace hF := lett_some hF; obtain ⟨t4, e3, hF⟩ := hF
  refine WL.val (d := (some 4)) (v := .bool t4) (h' := h) (by kernel_rfl) (by kernel_rfl) (val_of AV.bool e3 (by kernel_rfl)) ?_
  refine WL.val (d := (some 5)) (v := .bool t4) (h' := h) (by kernel_rfl) (by kernel_rfl) (by kernel_rfl) ?_
  replace hF := lett_some hF; obtain ⟨j8, e5, hF⟩ := hF
  have J6 : ∀ (t8 : Bool) (h_4 : AHeap), j8 t8 h_4 = some (rR, hR) → WL Try.prog w0 m0 (Func.ntmps Try.f15) (Code.ops (Code.p1 (Code.p2 (codeOf Try.f15)))) 6 K2 [(8, .bool t8)] [] h_4 := by
    intro t8 h_4 hF
    rw [e5] at hF
    refine WL.val (d := (some 2)) (v := .bool t8) (h' := h_4) (by kernel_rfl) (by kernel_rfl) (by kernel_rfl) ?_
    refine WL.nil (by kernel_rfl) ?_
    refine Go.weaken (l' := [(2, .bool t8)]) (Fr.sub_cons (by kernel_rfl) (Fr.sub_nil _)) ?_
    refine n2 ?_
    refine W.ret (by kernel_rfl) ?_
    obtain ⟨hF, hF2⟩ := ret_inj hF; subst hF; subst hF2
    exact leave_of (rs := [.tmp 2]) (vs := [.bool t8]) (by kernel_rfl) (res_tmp (by kernel_rfl) res_nil) (by kernel_rfl)
  cases t4 with
  | true =>
    replace hF := ifB_t hF
    refine WL.val (d := (some 6)) (v := .int .u8 t0) (h' := h) (by kernel_rfl) (by kernel_rfl) (by kernel_rfl) ?_
    replace hF := lett_some hF; obtain ⟨t7, e7, hF⟩ := hF
    refine WL.val (d := (some 7)) (v := .bool t7) (h' := h) (by kernel_rfl) (by kernel_rfl) (val_of AV.bool e7 (by kernel_rfl)) ?_
    refine WL.val (d := (some 8)) (v := .bool t7) (h' := h) (by kernel_rfl) (by kernel_rfl) (by kernel_rfl) ?_
    exact WL.weaken (Fr.sub_cons (by kernel_rfl) (Fr.sub_nil _)) (J6 _ _ hF)
  | false =>
    replace hF := ifB_f hF
    refine WL.not (d := (some 6)) (by kernel_rfl) (by kernel_rfl) ?_
    refine WL.not (d := (some 7)) (by kernel_rfl) (by kernel_rfl) ?_
    refine WL.val (d := (some 8)) (v := .bool false) (h' := h) (by kernel_rfl) (by kernel_rfl) (by kernel_rfl) ?_
    exact WL.weaken (Fr.sub_cons (by kernel_rfl) (Fr.sub_nil _)) (J6 _ _ hF)
noncomputable def lex_small_fn (call : CallF) (n : Nat) : FnT := fun args h => match args with
  | [x0] => obind (avInt .u8 x0) fun t0 => lex_small call n t0 h
  | _ => none
theorem lex_small_fn_eq (call : CallF) (n : Nat) (t0 : Int) (h : AHeap) : lex_small_fn call n [.int .u8 t0] h = lex_small call n t0 h :=
  (Eq.trans (obind_eq (fun t0 => lex_small call n t0 h) (avInt_int .u8 t0)) rfl)
theorem lex_small_holds {call : CallF} (hc : SaysAll Try.prog call) (n : Nat) : Holds Try.prog 15 (lex_small_fn call n) := by
  intro args h r h2 e
  unfold lex_small_fn at e
  split at e
  · replace e := obind_some e; obtain ⟨t0, c0, e⟩ := e; have c0 := avInt_some c0; subst c0
    exact lex_small_ok hc e
  · cases e

noncomputable def lex_digit (_ : CallF) (_ : Nat) (t0 : Int) (h : AHeap) : R :=
  lett (decide (t0 ≥ 48)) fun (t4 : Bool) =>
  lett (fun (t8 : Bool) (h_4 : AHeap) =>
    some (.ret (.bool t8), h_4)) fun j8 =>
  ifB t4
  (
    lett (decide (t0 ≤ 57)) fun (t7 : Bool) =>
    j8 t7 h)
  (
    j8 false h)
set_option maxHeartbeats 4000000 in
set_option maxRecDepth 20000 in
theorem lex_digit_ok {call : CallF} (_ : SaysAll Try.prog call) {n : Nat} {t0 : Int} {h : AHeap} {rR : ARes} {hR : AHeap} (hF : lex_digit call n t0 h = some (rR, hR)) : Says Try.prog 29 [.int .u8 t0] h rR hR := by
  unfold lex_digit at hF
  refine says_of (fn := Try.f29) Try.func29 (c := codeOf Try.f29) (by kernel_rfl) (by kernel_rfl) (fun w0 m0 => ?_)
  refine W.weaken (l' := [(0, .int .u8 t0)]) (Fr.sub_cons (by kernel_rfl) (Fr.sub_nil _)) ?_
  refine W.seqK (by kernel_rfl) (fun K1 n1 e1 r1 p1 => ?_)
  refine W.region (by kernel_rfl) ?_
  refine WL.val (d := (some 2)) (v := .bool false) (h' := h) (by kernel_rfl) (by kernel_rfl) (by kernel_rfl) ?_
  refine WL.nil (by kernel_rfl) ?_
  refine Go.weaken (l' := [(0, .int .u8 t0)]) (Fr.sub_cons (by kernel_rfl) (Fr.sub_nil _)) ?_
  refine n1 ?_
  refine W.seqK (by kernel_rfl) (fun K2 n2 e2 r2 p2 => ?_)
  refine W.region (by kernel_rfl) ?_
  refine WL.val (d := (some 3)) (v := .int .u8 t0) (h' := h) (by kernel_rfl) (by kernel_rfl) (by kernel_rfl) ?_
  replace hF := lett_some hF; obtain ⟨t4, e3, hF⟩ := hF
  refine WL.val (d := (some 4)) (v := .bool t4) (h' := h) (by kernel_rfl) (by kernel_rfl) (val_of AV.bool e3 (by kernel_rfl)) ?_
  refine WL.val (d := (some 5)) (v := .bool t4) (h' := h) (by kernel_rfl) (by kernel_rfl) (by kernel_rfl) ?_
  replace hF := lett_some hF; obtain ⟨j8, e5, hF⟩ := hF
  have J6 : ∀ (t8 : Bool) (h_4 : AHeap), j8 t8 h_4 = some (rR, hR) → WL Try.prog w0 m0 (Func.ntmps Try.f29) (Code.ops (Code.p1 (Code.p2 (codeOf Try.f29)))) 6 K2 [(8, .bool t8)] [] h_4 := by
    intro t8 h_4 hF
    rw [e5] at hF
    refine WL.val (d := (some 2)) (v := .bool t8) (h' := h_4) (by kernel_rfl) (by kernel_rfl) (by kernel_rfl) ?_
    refine WL.nil (by kernel_rfl) ?_
    refine Go.weaken (l' := [(2, .bool t8)]) (Fr.sub_cons (by kernel_rfl) (Fr.sub_nil _)) ?_
    refine n2 ?_
    refine W.ret (by kernel_rfl) ?_
    obtain ⟨hF, hF2⟩ := ret_inj hF; subst hF; subst hF2
    exact leave_of (rs := [.tmp 2]) (vs := [.bool t8]) (by kernel_rfl) (res_tmp (by kernel_rfl) res_nil) (by kernel_rfl)
  cases t4 with
  | true =>
    replace hF := ifB_t hF
    refine WL.val (d := (some 6)) (v := .int .u8 t0) (h' := h) (by kernel_rfl) (by kernel_rfl) (by kernel_rfl) ?_
    replace hF := lett_some hF; obtain ⟨t7, e7, hF⟩ := hF
    refine WL.val (d := (some 7)) (v := .bool t7) (h' := h) (by kernel_rfl) (by kernel_rfl) (val_of AV.bool e7 (by kernel_rfl)) ?_
    refine WL.val (d := (some 8)) (v := .bool t7) (h' := h) (by kernel_rfl) (by kernel_rfl) (by kernel_rfl) ?_
    exact WL.weaken (Fr.sub_cons (by kernel_rfl) (Fr.sub_nil _)) (J6 _ _ hF)
  | false =>
    replace hF := ifB_f hF
    refine WL.not (d := (some 6)) (by kernel_rfl) (by kernel_rfl) ?_
    refine WL.not (d := (some 7)) (by kernel_rfl) (by kernel_rfl) ?_
    refine WL.val (d := (some 8)) (v := .bool false) (h' := h) (by kernel_rfl) (by kernel_rfl) (by kernel_rfl) ?_
    exact WL.weaken (Fr.sub_cons (by kernel_rfl) (Fr.sub_nil _)) (J6 _ _ hF)
noncomputable def lex_digit_fn (call : CallF) (n : Nat) : FnT := fun args h => match args with
  | [x0] => obind (avInt .u8 x0) fun t0 => lex_digit call n t0 h
  | _ => none
theorem lex_digit_fn_eq (call : CallF) (n : Nat) (t0 : Int) (h : AHeap) : lex_digit_fn call n [.int .u8 t0] h = lex_digit call n t0 h :=
  (Eq.trans (obind_eq (fun t0 => lex_digit call n t0 h) (avInt_int .u8 t0)) rfl)
theorem lex_digit_holds {call : CallF} (hc : SaysAll Try.prog call) (n : Nat) : Holds Try.prog 29 (lex_digit_fn call n) := by
  intro args h r h2 e
  unfold lex_digit_fn at e
  split at e
  · replace e := obind_some e; obtain ⟨t0, c0, e⟩ := e; have c0 := avInt_some c0; subst c0
    exact lex_digit_ok hc e
  · cases e

noncomputable def lex_ofLanguage (_ : CallF) (_ : Nat) (t0 : Bytes) (h : AHeap) : R :=
  lett (eqS t0 ([115, 101, 110, 100] : Bytes)) fun (t5 : Bool) =>
  lett (fun (t4 : Bool) (h_9 : AHeap) =>
    ifB t4
    (
      some (.ret (.bool true), h_9))
    (
      some (.ret (.bool false), h_9))) fun k8 =>
  ifB t5
  (
    k8 true h)
  (
    lett (eqS t0 ([115, 101, 116] : Bytes)) fun (t6 : Bool) =>
    lett (fun (t4_15 : Bool) (h_16 : AHeap) =>
      k8 t4_15 h_16) fun k14 =>
    ifB t6
    (
      k14 true h)
    (
      lett (eqS t0 ([105, 110, 99] : Bytes)) fun (t7 : Bool) =>
      lett (fun (t4_20 : Bool) (h_21 : AHeap) =>
        k14 t4_20 h_21) fun k19 =>
      ifB t7
      (
        k19 true h)
      (
        lett (eqS t0 ([105, 102] : Bytes)) fun (t8 : Bool) =>
        lett (fun (t4_25 : Bool) (h_26 : AHeap) =>
          k19 t4_25 h_26) fun k24 =>
        ifB t8
        (
          k24 true h)
        (
          lett (eqS t0 ([103, 111, 116, 111] : Bytes)) fun (t9 : Bool) =>
          lett (fun (t4_30 : Bool) (h_31 : AHeap) =>
            k24 t4_30 h_31) fun k29 =>
          ifB t9
          (
            k29 true h)
          (
            lett (eqS t0 ([101, 120, 105, 116] : Bytes)) fun (t10 : Bool) =>
            lett (fun (t4_35 : Bool) (h_36 : AHeap) =>
              k29 t4_35 h_36) fun k34 =>
            ifB t10
            (
              k34 true h)
            (
              lett (eqS t0 ([101, 120, 112, 101, 99, 116] : Bytes)) fun (t11 : Bool) =>
              lett (fun (t4_40 : Bool) (h_41 : AHeap) =>
                k34 t4_40 h_41) fun k39 =>
              ifB t11
              (
                k39 true h)
              (
                lett (eqS t0 ([116, 105, 109, 101, 111, 117, 116] : Bytes)) fun (t12 : Bool) =>
                lett (fun (t4_45 : Bool) (h_46 : AHeap) =>
                  k39 t4_45 h_46) fun k44 =>
                ifB t12
                (
                  k44 true h)
                (
                  lett (eqS t0 ([103, 108, 111, 98] : Bytes)) fun (t13 : Bool) =>
                  lett (fun (t4_50 : Bool) (h_51 : AHeap) =>
                    k44 t4_50 h_51) fun k49 =>
                  ifB t13
                  (
                    k49 true h)
                  (
                    lett (eqS t0 ([114, 101] : Bytes)) fun (t14 : Bool) =>
                    k49 t14 h)))))))))
set_option maxHeartbeats 4000000 in
set_option maxRecDepth 20000 in
theorem lex_ofLanguage_ok {call : CallF} (_ : SaysAll Try.prog call) {n : Nat} {t0 : Bytes} {h : AHeap} {rR : ARes} {hR : AHeap} (hF : lex_ofLanguage call n t0 h = some (rR, hR)) : Says Try.prog 16 [strA t0] h rR hR := by
  unfold lex_ofLanguage at hF
  refine says_of (fn := Try.f16) Try.func16 (c := codeOf Try.f16) (by kernel_rfl) (by kernel_rfl) (fun w0 m0 => ?_)
  refine W.weaken (l' := [(0, strA t0)]) (Fr.sub_cons (by kernel_rfl) (Fr.sub_nil _)) ?_
  refine W.seqK (by kernel_rfl) (fun K1 n1 e1 r1 p1 => ?_)
  refine W.region (by kernel_rfl) ?_
  refine WL.val (d := (some 2)) (v := .bool false) (h' := h) (by kernel_rfl) (by kernel_rfl) (by kernel_rfl) ?_
  refine WL.nil (by kernel_rfl) ?_
  refine Go.weaken (l' := [(0, strA t0)]) (Fr.sub_cons (by kernel_rfl) (Fr.sub_nil _)) ?_
  refine n1 ?_
  refine W.seqK (by kernel_rfl) (fun K2 n2 e2 r2 p2 => ?_)
  refine W.seqK (by kernel_rfl) (fun K3 n3 e3 r3 p3 => ?_)
  refine W.region (by kernel_rfl) ?_
  refine WL.val (d := (some 3)) (v := strA t0) (h' := h) (by kernel_rfl) (by kernel_rfl) (by kernel_rfl) ?_
  refine WL.nil (by kernel_rfl) ?_
  refine Go.weaken (l' := [(3, strA t0)]) (Fr.sub_cons (by kernel_rfl) (Fr.sub_nil _)) ?_
  refine n3 ?_
  refine W.blockK (by kernel_rfl) (fun K4 n4 s4 o4 r4 p4 => ?_)
  refine W.seqK (by kernel_rfl) (fun K5 n5 e5 r5 p5 => ?_)
  refine W.seqK (by kernel_rfl) (fun K6 n6 e6 r6 p6 => ?_)
  refine W.region (by kernel_rfl) ?_
  replace hF := lett_some hF; obtain ⟨t5, e7, hF⟩ := hF
  refine WL.val (d := (some 5)) (v := .bool t5) (h' := h) (by kernel_rfl) (by kernel_rfl) (val_of AV.bool e7 (by kernel_rfl)) ?_
  refine WL.val (d := (some 4)) (v := .bool t5) (h' := h) (by kernel_rfl) (by kernel_rfl) (by kernel_rfl) ?_
  refine WL.nil (by kernel_rfl) ?_
  refine Go.weaken (l' := [(3, strA t0), (4, .bool t5)]) (Fr.sub_cons (by kernel_rfl) (Fr.sub_cons (by kernel_rfl) (Fr.sub_nil _))) ?_
  refine n6 ?_
  replace hF := lett_some hF; obtain ⟨k8, e8, hF⟩ := hF
  have J8 : ∀ (t4 : Bool) (h_9 : AHeap), k8 t4 h_9 = some (rR, hR) → Go w0 m0 (Func.ntmps Try.f16) (K5 .normal) [(4, .bool t4)] [] h_9 := by
    intro t4 h_9 hF
    rw [e8] at hF
    refine n5 ?_
    cases t4 with
    | true =>
      replace hF := ifB_t hF
      refine W.cond_true (by kernel_rfl) (by kernel_rfl) ?_
      refine W.seqK (by kernel_rfl) (fun K10 n10 e10 r10 p10 => ?_)
      refine W.region (by kernel_rfl) ?_
      refine WL.val (d := (some 2)) (v := .bool true) (h' := h_9) (by kernel_rfl) (by kernel_rfl) (by kernel_rfl) ?_
      refine WL.nil (by kernel_rfl) ?_
      refine Go.weaken (l' := [(2, .bool true)]) (Fr.sub_cons (by kernel_rfl) (Fr.sub_nil _)) ?_
      refine n10 ?_
      refine W.ret (by kernel_rfl) ?_
      refine r4 ?_
      refine r2 ?_
      obtain ⟨hF, hF2⟩ := ret_inj hF; subst hF; subst hF2
      exact leave_of (rs := [.tmp 2]) (vs := [.bool true]) (by kernel_rfl) (res_tmp (by kernel_rfl) res_nil) (by kernel_rfl)
    | false =>
      replace hF := ifB_f hF
      refine W.cond_false (by kernel_rfl) (by kernel_rfl) ?_
      refine W.skip (by kernel_rfl) ?_
      refine n4 ?_
      refine n2 ?_
      refine W.seqK (by kernel_rfl) (fun K11 n11 e11 r11 p11 => ?_)
      refine W.region (by kernel_rfl) ?_
      refine WL.val (d := (some 2)) (v := .bool false) (h' := h_9) (by kernel_rfl) (by kernel_rfl) (by kernel_rfl) ?_
      refine WL.nil (by kernel_rfl) ?_
      refine Go.weaken (l' := [(2, .bool false)]) (Fr.sub_cons (by kernel_rfl) (Fr.sub_nil _)) ?_
      refine n11 ?_
      refine W.ret (by kernel_rfl) ?_
      obtain ⟨hF, hF2⟩ := ret_inj hF; subst hF; subst hF2
      exact leave_of (rs := [.tmp 2]) (vs := [.bool false]) (by kernel_rfl) (res_tmp (by kernel_rfl) res_nil) (by kernel_rfl)
  cases t5 with
  | true =>
    replace hF := ifB_t hF
    refine W.cond_true (by kernel_rfl) (by kernel_rfl) ?_
    refine W.skip (by kernel_rfl) ?_
    exact Go.weaken (Fr.sub_cons (by kernel_rfl) (Fr.sub_nil _)) (J8 _ _ hF)
  | false =>
    replace hF := ifB_f hF
    refine W.cond_false (by kernel_rfl) (by kernel_rfl) ?_
    refine W.seqK (by kernel_rfl) (fun K12 n12 e12 r12 p12 => ?_)
    refine W.region (by kernel_rfl) ?_
    replace hF := lett_some hF; obtain ⟨t6, e13, hF⟩ := hF
    refine WL.val (d := (some 6)) (v := .bool t6) (h' := h) (by kernel_rfl) (by kernel_rfl) (val_of AV.bool e13 (by kernel_rfl)) ?_
    refine WL.val (d := (some 4)) (v := .bool t6) (h' := h) (by kernel_rfl) (by kernel_rfl) (by kernel_rfl) ?_
    refine WL.nil (by kernel_rfl) ?_
    refine Go.weaken (l' := [(3, strA t0), (4, .bool t6)]) (Fr.sub_cons (by kernel_rfl) (Fr.sub_cons (by kernel_rfl) (Fr.sub_nil _))) ?_
    refine n12 ?_
    replace hF := lett_some hF; obtain ⟨k14, e14, hF⟩ := hF
    have J14 : ∀ (t4_15 : Bool) (h_16 : AHeap), k14 t4_15 h_16 = some (rR, hR) → Go w0 m0 (Func.ntmps Try.f16) (K5 .normal) [(4, .bool t4_15)] [] h_16 := by
      intro t4_15 h_16 hF
      rw [e14] at hF
      exact Go.weaken (Fr.sub_cons (by kernel_rfl) (Fr.sub_nil _)) (J8 _ _ hF)
    cases t6 with
    | true =>
      replace hF := ifB_t hF
      refine W.cond_true (by kernel_rfl) (by kernel_rfl) ?_
      refine W.skip (by kernel_rfl) ?_
      exact Go.weaken (Fr.sub_cons (by kernel_rfl) (Fr.sub_nil _)) (J14 _ _ hF)
    | false =>
      replace hF := ifB_f hF
      refine W.cond_false (by kernel_rfl) (by kernel_rfl) ?_
      refine W.seqK (by kernel_rfl) (fun K17 n17 e17 r17 p17 => ?_)
      refine W.region (by kernel_rfl) ?_
      replace hF := lett_some hF; obtain ⟨t7, e18, hF⟩ := hF
      refine WL.val (d := (some 7)) (v := .bool t7) (h' := h) (by kernel_rfl) (by kernel_rfl) (val_of AV.bool e18 (by kernel_rfl)) ?_
      refine WL.val (d := (some 4)) (v := .bool t7) (h' := h) (by kernel_rfl) (by kernel_rfl) (by kernel_rfl) ?_
      refine WL.nil (by kernel_rfl) ?_
      refine Go.weaken (l' := [(3, strA t0), (4, .bool t7)]) (Fr.sub_cons (by kernel_rfl) (Fr.sub_cons (by kernel_rfl) (Fr.sub_nil _))) ?_
      refine n17 ?_
      replace hF := lett_some hF; obtain ⟨k19, e19, hF⟩ := hF
      have J19 : ∀ (t4_20 : Bool) (h_21 : AHeap), k19 t4_20 h_21 = some (rR, hR) → Go w0 m0 (Func.ntmps Try.f16) (K5 .normal) [(4, .bool t4_20)] [] h_21 := by
        intro t4_20 h_21 hF
        rw [e19] at hF
        exact Go.weaken (Fr.sub_cons (by kernel_rfl) (Fr.sub_nil _)) (J14 _ _ hF)
      cases t7 with
      | true =>
        replace hF := ifB_t hF
        refine W.cond_true (by kernel_rfl) (by kernel_rfl) ?_
        refine W.skip (by kernel_rfl) ?_
        exact Go.weaken (Fr.sub_cons (by kernel_rfl) (Fr.sub_nil _)) (J19 _ _ hF)
      | false =>
        replace hF := ifB_f hF
        refine W.cond_false (by kernel_rfl) (by kernel_rfl) ?_
        refine W.seqK (by kernel_rfl) (fun K22 n22 e22 r22 p22 => ?_)
        refine W.region (by kernel_rfl) ?_
        replace hF := lett_some hF; obtain ⟨t8, e23, hF⟩ := hF
        refine WL.val (d := (some 8)) (v := .bool t8) (h' := h) (by kernel_rfl) (by kernel_rfl) (val_of AV.bool e23 (by kernel_rfl)) ?_
        refine WL.val (d := (some 4)) (v := .bool t8) (h' := h) (by kernel_rfl) (by kernel_rfl) (by kernel_rfl) ?_
        refine WL.nil (by kernel_rfl) ?_
        refine Go.weaken (l' := [(3, strA t0), (4, .bool t8)]) (Fr.sub_cons (by kernel_rfl) (Fr.sub_cons (by kernel_rfl) (Fr.sub_nil _))) ?_
        refine n22 ?_
        replace hF := lett_some hF; obtain ⟨k24, e24, hF⟩ := hF
        have J24 : ∀ (t4_25 : Bool) (h_26 : AHeap), k24 t4_25 h_26 = some (rR, hR) → Go w0 m0 (Func.ntmps Try.f16) (K5 .normal) [(4, .bool t4_25)] [] h_26 := by
          intro t4_25 h_26 hF
          rw [e24] at hF
          exact Go.weaken (Fr.sub_cons (by kernel_rfl) (Fr.sub_nil _)) (J19 _ _ hF)
        cases t8 with
        | true =>
          replace hF := ifB_t hF
          refine W.cond_true (by kernel_rfl) (by kernel_rfl) ?_
          refine W.skip (by kernel_rfl) ?_
          exact Go.weaken (Fr.sub_cons (by kernel_rfl) (Fr.sub_nil _)) (J24 _ _ hF)
        | false =>
          replace hF := ifB_f hF
          refine W.cond_false (by kernel_rfl) (by kernel_rfl) ?_
          refine W.seqK (by kernel_rfl) (fun K27 n27 e27 r27 p27 => ?_)
          refine W.region (by kernel_rfl) ?_
          replace hF := lett_some hF; obtain ⟨t9, e28, hF⟩ := hF
          refine WL.val (d := (some 9)) (v := .bool t9) (h' := h) (by kernel_rfl) (by kernel_rfl) (val_of AV.bool e28 (by kernel_rfl)) ?_
          refine WL.val (d := (some 4)) (v := .bool t9) (h' := h) (by kernel_rfl) (by kernel_rfl) (by kernel_rfl) ?_
          refine WL.nil (by kernel_rfl) ?_
          refine Go.weaken (l' := [(3, strA t0), (4, .bool t9)]) (Fr.sub_cons (by kernel_rfl) (Fr.sub_cons (by kernel_rfl) (Fr.sub_nil _))) ?_
          refine n27 ?_
          replace hF := lett_some hF; obtain ⟨k29, e29, hF⟩ := hF
          have J29 : ∀ (t4_30 : Bool) (h_31 : AHeap), k29 t4_30 h_31 = some (rR, hR) → Go w0 m0 (Func.ntmps Try.f16) (K5 .normal) [(4, .bool t4_30)] [] h_31 := by
            intro t4_30 h_31 hF
            rw [e29] at hF
            exact Go.weaken (Fr.sub_cons (by kernel_rfl) (Fr.sub_nil _)) (J24 _ _ hF)
          cases t9 with
          | true =>
            replace hF := ifB_t hF
            refine W.cond_true (by kernel_rfl) (by kernel_rfl) ?_
            refine W.skip (by kernel_rfl) ?_
            exact Go.weaken (Fr.sub_cons (by kernel_rfl) (Fr.sub_nil _)) (J29 _ _ hF)
          | false =>
            replace hF := ifB_f hF
            refine W.cond_false (by kernel_rfl) (by kernel_rfl) ?_
            refine W.seqK (by kernel_rfl) (fun K32 n32 e32 r32 p32 => ?_)
            refine W.region (by kernel_rfl) ?_
            replace hF := lett_some hF; obtain ⟨t10, e33, hF⟩ := hF
            refine WL.val (d := (some 10)) (v := .bool t10) (h' := h) (by kernel_rfl) (by kernel_rfl) (val_of AV.bool e33 (by kernel_rfl)) ?_
            refine WL.val (d := (some 4)) (v := .bool t10) (h' := h) (by kernel_rfl) (by kernel_rfl) (by kernel_rfl) ?_
            refine WL.nil (by kernel_rfl) ?_
            refine Go.weaken (l' := [(3, strA t0), (4, .bool t10)]) (Fr.sub_cons (by kernel_rfl) (Fr.sub_cons (by kernel_rfl) (Fr.sub_nil _))) ?_
            refine n32 ?_
            replace hF := lett_some hF; obtain ⟨k34, e34, hF⟩ := hF
            have J34 : ∀ (t4_35 : Bool) (h_36 : AHeap), k34 t4_35 h_36 = some (rR, hR) → Go w0 m0 (Func.ntmps Try.f16) (K5 .normal) [(4, .bool t4_35)] [] h_36 := by
              intro t4_35 h_36 hF
              rw [e34] at hF
              exact Go.weaken (Fr.sub_cons (by kernel_rfl) (Fr.sub_nil _)) (J29 _ _ hF)
            cases t10 with
            | true =>
              replace hF := ifB_t hF
              refine W.cond_true (by kernel_rfl) (by kernel_rfl) ?_
              refine W.skip (by kernel_rfl) ?_
              exact Go.weaken (Fr.sub_cons (by kernel_rfl) (Fr.sub_nil _)) (J34 _ _ hF)
            | false =>
              replace hF := ifB_f hF
              refine W.cond_false (by kernel_rfl) (by kernel_rfl) ?_
              refine W.seqK (by kernel_rfl) (fun K37 n37 e37 r37 p37 => ?_)
              refine W.region (by kernel_rfl) ?_
              replace hF := lett_some hF; obtain ⟨t11, e38, hF⟩ := hF
              refine WL.val (d := (some 11)) (v := .bool t11) (h' := h) (by kernel_rfl) (by kernel_rfl) (val_of AV.bool e38 (by kernel_rfl)) ?_
              refine WL.val (d := (some 4)) (v := .bool t11) (h' := h) (by kernel_rfl) (by kernel_rfl) (by kernel_rfl) ?_
              refine WL.nil (by kernel_rfl) ?_
              refine Go.weaken (l' := [(3, strA t0), (4, .bool t11)]) (Fr.sub_cons (by kernel_rfl) (Fr.sub_cons (by kernel_rfl) (Fr.sub_nil _))) ?_
              refine n37 ?_
              replace hF := lett_some hF; obtain ⟨k39, e39, hF⟩ := hF
              have J39 : ∀ (t4_40 : Bool) (h_41 : AHeap), k39 t4_40 h_41 = some (rR, hR) → Go w0 m0 (Func.ntmps Try.f16) (K5 .normal) [(4, .bool t4_40)] [] h_41 := by
                intro t4_40 h_41 hF
                rw [e39] at hF
                exact Go.weaken (Fr.sub_cons (by kernel_rfl) (Fr.sub_nil _)) (J34 _ _ hF)
              cases t11 with
              | true =>
                replace hF := ifB_t hF
                refine W.cond_true (by kernel_rfl) (by kernel_rfl) ?_
                refine W.skip (by kernel_rfl) ?_
                exact Go.weaken (Fr.sub_cons (by kernel_rfl) (Fr.sub_nil _)) (J39 _ _ hF)
              | false =>
                replace hF := ifB_f hF
                refine W.cond_false (by kernel_rfl) (by kernel_rfl) ?_
                refine W.seqK (by kernel_rfl) (fun K42 n42 e42 r42 p42 => ?_)
                refine W.region (by kernel_rfl) ?_
                replace hF := lett_some hF; obtain ⟨t12, e43, hF⟩ := hF
                refine WL.val (d := (some 12)) (v := .bool t12) (h' := h) (by kernel_rfl) (by kernel_rfl) (val_of AV.bool e43 (by kernel_rfl)) ?_
                refine WL.val (d := (some 4)) (v := .bool t12) (h' := h) (by kernel_rfl) (by kernel_rfl) (by kernel_rfl) ?_
                refine WL.nil (by kernel_rfl) ?_
                refine Go.weaken (l' := [(3, strA t0), (4, .bool t12)]) (Fr.sub_cons (by kernel_rfl) (Fr.sub_cons (by kernel_rfl) (Fr.sub_nil _))) ?_
                refine n42 ?_
                replace hF := lett_some hF; obtain ⟨k44, e44, hF⟩ := hF
                have J44 : ∀ (t4_45 : Bool) (h_46 : AHeap), k44 t4_45 h_46 = some (rR, hR) → Go w0 m0 (Func.ntmps Try.f16) (K5 .normal) [(4, .bool t4_45)] [] h_46 := by
                  intro t4_45 h_46 hF
                  rw [e44] at hF
                  exact Go.weaken (Fr.sub_cons (by kernel_rfl) (Fr.sub_nil _)) (J39 _ _ hF)
                cases t12 with
                | true =>
                  replace hF := ifB_t hF
                  refine W.cond_true (by kernel_rfl) (by kernel_rfl) ?_
                  refine W.skip (by kernel_rfl) ?_
                  exact Go.weaken (Fr.sub_cons (by kernel_rfl) (Fr.sub_nil _)) (J44 _ _ hF)
                | false =>
                  replace hF := ifB_f hF
                  refine W.cond_false (by kernel_rfl) (by kernel_rfl) ?_
                  refine W.seqK (by kernel_rfl) (fun K47 n47 e47 r47 p47 => ?_)
                  refine W.region (by kernel_rfl) ?_
                  replace hF := lett_some hF; obtain ⟨t13, e48, hF⟩ := hF
                  refine WL.val (d := (some 13)) (v := .bool t13) (h' := h) (by kernel_rfl) (by kernel_rfl) (val_of AV.bool e48 (by kernel_rfl)) ?_
                  refine WL.val (d := (some 4)) (v := .bool t13) (h' := h) (by kernel_rfl) (by kernel_rfl) (by kernel_rfl) ?_
                  refine WL.nil (by kernel_rfl) ?_
                  refine Go.weaken (l' := [(3, strA t0), (4, .bool t13)]) (Fr.sub_cons (by kernel_rfl) (Fr.sub_cons (by kernel_rfl) (Fr.sub_nil _))) ?_
                  refine n47 ?_
                  replace hF := lett_some hF; obtain ⟨k49, e49, hF⟩ := hF
                  have J49 : ∀ (t4_50 : Bool) (h_51 : AHeap), k49 t4_50 h_51 = some (rR, hR) → Go w0 m0 (Func.ntmps Try.f16) (K5 .normal) [(4, .bool t4_50)] [] h_51 := by
                    intro t4_50 h_51 hF
                    rw [e49] at hF
                    exact Go.weaken (Fr.sub_cons (by kernel_rfl) (Fr.sub_nil _)) (J44 _ _ hF)
                  cases t13 with
                  | true =>
                    replace hF := ifB_t hF
                    refine W.cond_true (by kernel_rfl) (by kernel_rfl) ?_
                    refine W.skip (by kernel_rfl) ?_
                    exact Go.weaken (Fr.sub_cons (by kernel_rfl) (Fr.sub_nil _)) (J49 _ _ hF)
                  | false =>
                    replace hF := ifB_f hF
                    refine W.cond_false (by kernel_rfl) (by kernel_rfl) ?_
                    refine W.region (by kernel_rfl) ?_
                    replace hF := lett_some hF; obtain ⟨t14, e52, hF⟩ := hF
                    refine WL.val (d := (some 14)) (v := .bool t14) (h' := h) (by kernel_rfl) (by kernel_rfl) (val_of AV.bool e52 (by kernel_rfl)) ?_
                    refine WL.val (d := (some 4)) (v := .bool t14) (h' := h) (by kernel_rfl) (by kernel_rfl) (by kernel_rfl) ?_
                    refine WL.nil (by kernel_rfl) ?_
                    refine Go.weaken (l' := [(4, .bool t14)]) (Fr.sub_cons (by kernel_rfl) (Fr.sub_nil _)) ?_
                    exact Go.weaken (Fr.sub_cons (by kernel_rfl) (Fr.sub_nil _)) (J49 _ _ hF)
noncomputable def lex_ofLanguage_fn (call : CallF) (n : Nat) : FnT := fun args h => match args with
  | [x0] => obind (avStr x0) fun t0 => lex_ofLanguage call n t0 h
  | _ => none
theorem lex_ofLanguage_fn_eq (call : CallF) (n : Nat) (t0 : Bytes) (h : AHeap) : lex_ofLanguage_fn call n [strA t0] h = lex_ofLanguage call n t0 h :=
  (Eq.trans (obind_eq (fun t0 => lex_ofLanguage call n t0 h) (avStr_str t0)) rfl)
theorem lex_ofLanguage_holds {call : CallF} (hc : SaysAll Try.prog call) (n : Nat) : Holds Try.prog 16 (lex_ofLanguage_fn call n) := by
  intro args h r h2 e
  unfold lex_ofLanguage_fn at e
  split at e
  · replace e := obind_some e; obtain ⟨t0, c0, e⟩ := e; have c0 := avStr_some c0; subst c0
    exact lex_ofLanguage_ok hc e
  · cases e

noncomputable def ref12_Name_L1b (call : CallF) (t0 : Bytes) (k15 : AHeap → R) (self : Int → AHeap → R) (t3 : Int) (h_42 : AHeap) : R :=
  lett (decide (t3 < (lenS t0))) fun (t23 : Bool) =>
  ifB t23
  (
    obind (idxS t0 t3) fun t28 =>
    callN (call 19 [.int .u8 t28] h_42) fun r29 h_50 =>
    obind (avBool r29) fun t29 =>
    lett (!t29) fun (t30 : Bool) =>
    ifB t30
    (
      some (.ret (.bool false), h_50))
    (
      lett (IntKind.i64.wrap (t3 + 1)) fun (t25 : Int) =>
      self t25 h_50))
  (
    k15 h_42)
noncomputable def ref12_Name_L1 (call : CallF) (t0 : Bytes) (k15 : AHeap → R) : Nat → Int → AHeap → R := iterR (fun _ _ => none) (ref12_Name_L1b call t0 k15)
theorem ref12_Name_L1_s (call : CallF) (t0 : Bytes) (k15 : AHeap → R) (m : Nat) : ref12_Name_L1 call t0 k15 (m + 1) = ref12_Name_L1b call t0 k15 (ref12_Name_L1 call t0 k15 m) := rfl
noncomputable def ref12_Name_L0b (t0 : Bytes) (r31 : AV) (k23 : AHeap → R) (self : Int → AHeap → R) (t5 : Int) (h_27 : AHeap) : R :=
  obind (lenL r31) fun t34 =>
  lett (decide (t5 < t34)) fun (t35 : Bool) =>
  ifB t35
  (
    obind (idxP 1 r31 t5) fun t40 =>
    obind (ldCell h_27 t40) fun v41 =>
    obind (avStr v41) fun t41 =>
    lett (eqS t41 t0) fun (t43 : Bool) =>
    ifB t43
    (
      some (.ret (.bool false), h_27))
    (
      lett (IntKind.i64.wrap (t5 + 1)) fun (t37 : Int) =>
      self t37 h_27))
  (
    k23 h_27)
noncomputable def ref12_Name_L0 (t0 : Bytes) (r31 : AV) (k23 : AHeap → R) : Nat → Int → AHeap → R := iterR (fun _ _ => none) (ref12_Name_L0b t0 r31 k23)
theorem ref12_Name_L0_s (t0 : Bytes) (r31 : AV) (k23 : AHeap → R) (m : Nat) : ref12_Name_L0 t0 r31 k23 (m + 1) = ref12_Name_L0b t0 r31 k23 (ref12_Name_L0 t0 r31 k23 m) := rfl
noncomputable def ref12_Name (call : CallF) (n : Nat) (t0 : Bytes) (h : AHeap) : R :=
  lett (decide ((lenS t0) < 1)) fun (t8 : Bool) =>
  lett (fun (t13 : Bool) (h_5 : AHeap) =>
    lett (fun (t19 : Bool) (h_8 : AHeap) =>
      ifB t19
      (
        some (.ret (.bool false), h_8))
      (
        lett (fun  (h_16 : AHeap) =>
          callN (call 20 [] h_16) fun r31 h_18 =>
          lett (fun  (h_24 : AHeap) =>
            some (.ret (.bool true), h_24)) fun k23 =>
          ref12_Name_L0 t0 r31 k23 n 0 h_18) fun k15 =>
        ref12_Name_L1 call t0 k15 n 0 h_8)) fun j19 =>
    ifB t13
    (
      j19 true h_5)
    (
      obind (idxS t0 0) fun t16 =>
      callN (call 18 [.int .u8 t16] h_5) fun r17 h_57 =>
      obind (avBool r17) fun t17 =>
      lett (!t17) fun (t18 : Bool) =>
      j19 t18 h_57)) fun j13 =>
  ifB t8
  (
    j13 true h)
  (
    lett (decide ((lenS t0) > 16)) fun (t12 : Bool) =>
    j13 t12 h)
set_option maxHeartbeats 4000000 in
set_option maxRecDepth 20000 in
theorem ref12_Name_ok {call : CallF} (hc : SaysAll Try.prog call) {n : Nat} {t0 : Bytes} {h : AHeap} {rR : ARes} {hR : AHeap} (hF : ref12_Name call n t0 h = some (rR, hR)) : Says Try.prog 12 [strA t0] h rR hR := by
  unfold ref12_Name at hF
  refine says_of (fn := Try.f12) Try.func12 (c := codeOf Try.f12) (by kernel_rfl) (by kernel_rfl) (fun w0 m0 => ?_)
  refine W.weaken (l' := [(0, strA t0)]) (Fr.sub_cons (by kernel_rfl) (Fr.sub_nil _)) ?_
  refine W.seqK (by kernel_rfl) (fun K1 n1 e1 r1 p1 => ?_)
  refine W.region (by kernel_rfl) ?_
  refine WL.val (d := (some 2)) (v := .bool false) (h' := h) (by kernel_rfl) (by kernel_rfl) (by kernel_rfl) ?_
  refine WL.nil (by kernel_rfl) ?_
  refine Go.weaken (l' := [(0, strA t0)]) (Fr.sub_cons (by kernel_rfl) (Fr.sub_nil _)) ?_
  refine n1 ?_
  refine W.seqK (by kernel_rfl) (fun K2 n2 e2 r2 p2 => ?_)
  refine W.seqK (by kernel_rfl) (fun K3 n3 e3 r3 p3 => ?_)
  refine W.region (by kernel_rfl) ?_
  refine WL.val (d := (some 6)) (v := strA t0) (h' := h) (by kernel_rfl) (by kernel_rfl) (by kernel_rfl) ?_
  refine WL.val (d := (some 7)) (v := .int .i64 (lenS t0)) (h' := h) (by kernel_rfl) (by kernel_rfl) (by kernel_rfl) ?_
  replace hF := lett_some hF; obtain ⟨t8, e4, hF⟩ := hF
  refine WL.val (d := (some 8)) (v := .bool t8) (h' := h) (by kernel_rfl) (by kernel_rfl) (val_of AV.bool e4 (by kernel_rfl)) ?_
  refine WL.val (d := (some 9)) (v := .bool t8) (h' := h) (by kernel_rfl) (by kernel_rfl) (by kernel_rfl) ?_
  replace hF := lett_some hF; obtain ⟨j13, e6, hF⟩ := hF
  have J7 : ∀ (t13 : Bool) (h_5 : AHeap), j13 t13 h_5 = some (rR, hR) → WL Try.prog w0 m0 (Func.ntmps Try.f12) (Code.ops (Code.p1 (Code.p1 (Code.p2 (codeOf Try.f12))))) 8 K3 [(0, strA t0), (13, .bool t13)] [] h_5 := by
    intro t13 h_5 hF
    rw [e6] at hF
    refine WL.val (d := (some 14)) (v := .bool t13) (h' := h_5) (by kernel_rfl) (by kernel_rfl) (by kernel_rfl) ?_
    replace hF := lett_some hF; obtain ⟨j19, e9, hF⟩ := hF
    have J10 : ∀ (t19 : Bool) (h_8 : AHeap), j19 t19 h_8 = some (rR, hR) → WL Try.prog w0 m0 (Func.ntmps Try.f12) (Code.ops (Code.p1 (Code.p1 (Code.p2 (codeOf Try.f12))))) 14 K3 [(0, strA t0), (19, .bool t19)] [] h_8 := by
      intro t19 h_8 hF
      rw [e9] at hF
      refine WL.nil (by kernel_rfl) ?_
      refine Go.weaken (l' := [(0, strA t0), (19, .bool t19)]) (Fr.sub_cons (by kernel_rfl) (Fr.sub_cons (by kernel_rfl) (Fr.sub_nil _))) ?_
      refine n3 ?_
      cases t19 with
      | true =>
        replace hF := ifB_t hF
        refine W.cond_true (by kernel_rfl) (by kernel_rfl) ?_
        refine W.seqK (by kernel_rfl) (fun K11 n11 e11 r11 p11 => ?_)
        refine W.region (by kernel_rfl) ?_
        refine WL.val (d := (some 2)) (v := .bool false) (h' := h_8) (by kernel_rfl) (by kernel_rfl) (by kernel_rfl) ?_
        refine WL.nil (by kernel_rfl) ?_
        refine Go.weaken (l' := [(2, .bool false)]) (Fr.sub_cons (by kernel_rfl) (Fr.sub_nil _)) ?_
        refine n11 ?_
        refine W.ret (by kernel_rfl) ?_
        refine r2 ?_
        obtain ⟨hF, hF2⟩ := ret_inj hF; subst hF; subst hF2
        exact leave_of (rs := [.tmp 2]) (vs := [.bool false]) (by kernel_rfl) (res_tmp (by kernel_rfl) res_nil) (by kernel_rfl)
      | false =>
        replace hF := ifB_f hF
        refine W.cond_false (by kernel_rfl) (by kernel_rfl) ?_
        refine W.skip (by kernel_rfl) ?_
        refine n2 ?_
        refine W.seqK (by kernel_rfl) (fun K12 n12 e12 r12 p12 => ?_)
        refine W.seqK (by kernel_rfl) (fun K13 n13 e13 r13 p13 => ?_)
        refine W.region (by kernel_rfl) ?_
        refine WL.val (d := (some 3)) (v := .int .i64 0) (h' := h_8) (by kernel_rfl) (by kernel_rfl) (by kernel_rfl) ?_
        refine WL.nil (by kernel_rfl) ?_
        refine Go.weaken (l' := [(0, strA t0), (3, .int .i64 0)]) (Fr.sub_cons (by kernel_rfl) (Fr.sub_cons (by kernel_rfl) (Fr.sub_nil _))) ?_
        refine n13 ?_
        replace hF := lett_some hF; obtain ⟨k15, e15, hF⟩ := hF
        have J15 : ∀  (h_16 : AHeap), k15 h_16 = some (rR, hR) → Go w0 m0 (Func.ntmps Try.f12) (K12 .normal) [(0, strA t0)] [] h_16 := by
          intro  h_16 hF
          rw [e15] at hF
          refine n12 ?_
          refine W.seqK (by kernel_rfl) (fun K17 n17 e17 r17 p17 => ?_)
          refine W.region (by kernel_rfl) ?_
          replace hF := callN_some hF; obtain ⟨r31, h_18, e19, hF⟩ := hF
          refine WL.call (hc.ok w0) (d := (some 31)) (by kernel_rfl) (by kernel_rfl) (by kernel_rfl) e19 ?_
          refine WL.val (d := (some 4)) (v := r31) (h' := h_18) (by kernel_rfl) (by kernel_rfl) (by kernel_rfl) ?_
          refine WL.nil (by kernel_rfl) ?_
          refine Go.weaken (l' := [(0, strA t0), (4, r31)]) (Fr.sub_cons (by kernel_rfl) (Fr.sub_cons (by kernel_rfl) (Fr.sub_nil _))) ?_
          refine n17 ?_
          refine W.seqK (by kernel_rfl) (fun K20 n20 e20 r20 p20 => ?_)
          refine W.seqK (by kernel_rfl) (fun K21 n21 e21 r21 p21 => ?_)
          refine W.region (by kernel_rfl) ?_
          refine WL.val (d := (some 5)) (v := .int .i64 0) (h' := h_18) (by kernel_rfl) (by kernel_rfl) (by kernel_rfl) ?_
          refine WL.nil (by kernel_rfl) ?_
          refine Go.weaken (l' := [(0, strA t0), (4, r31), (5, .int .i64 0)]) (Fr.sub_cons (by kernel_rfl) (Fr.sub_cons (by kernel_rfl) (Fr.sub_cons (by kernel_rfl) (Fr.sub_nil _)))) ?_
          refine n21 ?_
          replace hF := lett_some hF; obtain ⟨k23, e23, hF⟩ := hF
          have J23 : ∀  (h_24 : AHeap), k23 h_24 = some (rR, hR) → Go w0 m0 (Func.ntmps Try.f12) (K20 .normal) [] [] h_24 := by
            intro  h_24 hF
            rw [e23] at hF
            refine n20 ?_
            refine W.seqK (by kernel_rfl) (fun K25 n25 e25 r25 p25 => ?_)
            refine W.region (by kernel_rfl) ?_
            refine WL.val (d := (some 2)) (v := .bool true) (h' := h_24) (by kernel_rfl) (by kernel_rfl) (by kernel_rfl) ?_
            refine WL.nil (by kernel_rfl) ?_
            refine Go.weaken (l' := [(2, .bool true)]) (Fr.sub_cons (by kernel_rfl) (Fr.sub_nil _)) ?_
            refine n25 ?_
            refine W.ret (by kernel_rfl) ?_
            obtain ⟨hF, hF2⟩ := ret_inj hF; subst hF; subst hF2
            exact leave_of (rs := [.tmp 2]) (vs := [.bool true]) (by kernel_rfl) (res_tmp (by kernel_rfl) res_nil) (by kernel_rfl)
          refine W.blockK (by kernel_rfl) (fun K22 n22 s22 o22 r22 p22 => ?_)
          refine W.loopK (by kernel_rfl) (fun I26 K26 b26 n26 e26 r26 p26 => ?_)
          have L26 : ∀ (m : Nat) (t5 : Int) (h_27 : AHeap), ref12_Name_L0 t0 r31 k23 m t5 h_27 = some (rR, hR) → Go w0 m0 (Func.ntmps Try.f12) I26 [(0, strA t0), (4, r31), (5, .int .i64 t5)] [] h_27 := by
            intro m
            induction m with
            | zero => intro t5 h_27 hF; cases hF
            | succ m ih26 =>
              intro t5 h_27 hF
              rw [ref12_Name_L0_s] at hF; unfold ref12_Name_L0b at hF
              refine b26 ?_
              refine W.seqK (by kernel_rfl) (fun K28 n28 e28 r28 p28 => ?_)
              refine W.seqK (by kernel_rfl) (fun K29 n29 e29 r29 p29 => ?_)
              refine W.region (by kernel_rfl) ?_
              refine WL.val (d := (some 32)) (v := .int .i64 t5) (h' := h_27) (by kernel_rfl) (by kernel_rfl) (by kernel_rfl) ?_
              refine WL.val (d := (some 33)) (v := r31) (h' := h_27) (by kernel_rfl) (by kernel_rfl) (by kernel_rfl) ?_
              replace hF := obind_some hF; obtain ⟨t34, e30, hF⟩ := hF
              refine WL.val (d := (some 34)) (v := .int .i64 t34) (h' := h_27) (by kernel_rfl) (by kernel_rfl) (Eq.trans (by kernel_rfl) (len_row (P := Try.prog) (h := h_27) (t := 41) (e' := 9) (by kernel_rfl) e30)) ?_
              replace hF := lett_some hF; obtain ⟨t35, e31, hF⟩ := hF
              refine WL.val (d := (some 35)) (v := .bool t35) (h' := h_27) (by kernel_rfl) (by kernel_rfl) (val_of AV.bool e31 (by kernel_rfl)) ?_
              refine WL.nil (by kernel_rfl) ?_
              refine Go.weaken (l' := [(0, strA t0), (4, r31), (5, .int .i64 t5), (35, .bool t35)]) (Fr.sub_cons (by kernel_rfl) (Fr.sub_cons (by kernel_rfl) (Fr.sub_cons (by kernel_rfl) (Fr.sub_cons (by kernel_rfl) (Fr.sub_nil _))))) ?_
              refine n29 ?_
              cases t35 with
              | true =>
                replace hF := ifB_t hF
                refine W.cond_true (by kernel_rfl) (by kernel_rfl) ?_
                refine W.skip (by kernel_rfl) ?_
                refine n28 ?_
                refine W.seqK (by kernel_rfl) (fun K32 n32 e32 r32 p32 => ?_)
                refine W.blockK (by kernel_rfl) (fun K33 n33 s33 o33 r33 p33 => ?_)
                refine W.seqK (by kernel_rfl) (fun K34 n34 e34 r34 p34 => ?_)
                refine W.region (by kernel_rfl) ?_
                refine WL.val (d := (some 38)) (v := r31) (h' := h_27) (by kernel_rfl) (by kernel_rfl) (by kernel_rfl) ?_
                refine WL.val (d := (some 39)) (v := .int .i64 t5) (h' := h_27) (by kernel_rfl) (by kernel_rfl) (by kernel_rfl) ?_
                replace hF := obind_some hF; obtain ⟨t40, e35, hF⟩ := hF
                refine WL.val (d := (some 40)) (v := t40) (h' := h_27) (by kernel_rfl) (by kernel_rfl) (Eq.trans (by kernel_rfl) (index_row (P := Try.prog) (h := h_27) (t := 41) (e' := 9) (k := .i64) (by kernel_rfl) (by kernel_rfl) (by kernel_rfl) e35)) ?_
                replace hF := obind_some hF; obtain ⟨v41, e36, hF⟩ := hF
                replace hF := obind_some hF; obtain ⟨t41, c37, hF⟩ := hF
                have c37 := avStr_some c37
                subst c37
                refine WL.val (d := (some 41)) (v := strA t41) (h' := h_27) (by kernel_rfl) (by kernel_rfl) (Eq.trans (by kernel_rfl) (load_cell (P := Try.prog) (h := h_27) (t := 9) (by kernel_rfl) e36)) ?_
                refine WL.val (d := (some 42)) (v := strA t0) (h' := h_27) (by kernel_rfl) (by kernel_rfl) (by kernel_rfl) ?_
                replace hF := lett_some hF; obtain ⟨t43, e38, hF⟩ := hF
                refine WL.val (d := (some 43)) (v := .bool t43) (h' := h_27) (by kernel_rfl) (by kernel_rfl) (val_of AV.bool e38 (by kernel_rfl)) ?_
                refine WL.nil (by kernel_rfl) ?_
                refine Go.weaken (l' := [(0, strA t0), (4, r31), (5, .int .i64 t5), (43, .bool t43)]) (Fr.sub_cons (by kernel_rfl) (Fr.sub_cons (by kernel_rfl) (Fr.sub_cons (by kernel_rfl) (Fr.sub_cons (by kernel_rfl) (Fr.sub_nil _))))) ?_
                refine n34 ?_
                cases t43 with
                | true =>
                  replace hF := ifB_t hF
                  refine W.cond_true (by kernel_rfl) (by kernel_rfl) ?_
                  refine W.seqK (by kernel_rfl) (fun K39 n39 e39 r39 p39 => ?_)
                  refine W.region (by kernel_rfl) ?_
                  refine WL.val (d := (some 2)) (v := .bool false) (h' := h_27) (by kernel_rfl) (by kernel_rfl) (by kernel_rfl) ?_
                  refine WL.nil (by kernel_rfl) ?_
                  refine Go.weaken (l' := [(2, .bool false)]) (Fr.sub_cons (by kernel_rfl) (Fr.sub_nil _)) ?_
                  refine n39 ?_
                  refine W.ret (by kernel_rfl) ?_
                  refine r33 ?_
                  refine r32 ?_
                  refine r26 ?_
                  refine r22 ?_
                  refine r20 ?_
                  obtain ⟨hF, hF2⟩ := ret_inj hF; subst hF; subst hF2
                  exact leave_of (rs := [.tmp 2]) (vs := [.bool false]) (by kernel_rfl) (res_tmp (by kernel_rfl) res_nil) (by kernel_rfl)
                | false =>
                  replace hF := ifB_f hF
                  refine W.cond_false (by kernel_rfl) (by kernel_rfl) ?_
                  refine W.skip (by kernel_rfl) ?_
                  refine n33 ?_
                  refine n32 ?_
                  refine W.region (by kernel_rfl) ?_
                  refine WL.val (d := (some 36)) (v := .int .i64 t5) (h' := h_27) (by kernel_rfl) (by kernel_rfl) (by kernel_rfl) ?_
                  replace hF := lett_some hF; obtain ⟨t37, e40, hF⟩ := hF
                  refine WL.val (d := (some 37)) (v := .int .i64 t37) (h' := h_27) (by kernel_rfl) (by kernel_rfl) (val_of (AV.int .i64) e40 (by kernel_rfl)) ?_
                  refine WL.val (d := (some 5)) (v := .int .i64 t37) (h' := h_27) (by kernel_rfl) (by kernel_rfl) (by kernel_rfl) ?_
                  refine WL.nil (by kernel_rfl) ?_
                  refine Go.weaken (l' := [(0, strA t0), (4, r31), (5, .int .i64 t37)]) (Fr.sub_cons (by kernel_rfl) (Fr.sub_cons (by kernel_rfl) (Fr.sub_cons (by kernel_rfl) (Fr.sub_nil _)))) ?_
                  refine n26 ?_
                  exact Go.weaken (Fr.sub_cons (by kernel_rfl) (Fr.sub_cons (by kernel_rfl) (Fr.sub_cons (by kernel_rfl) (Fr.sub_nil _)))) (ih26 _ _ hF)
              | false =>
                replace hF := ifB_f hF
                refine W.cond_false (by kernel_rfl) (by kernel_rfl) ?_
                refine W.exit (by kernel_rfl) ?_
                refine e28 ?_
                refine e26 ?_
                refine s22 (by kernel_rfl) ?_
                exact Go.weaken (Fr.sub_nil _) (J23 _ hF)
          exact Go.weaken (Fr.sub_cons (by kernel_rfl) (Fr.sub_cons (by kernel_rfl) (Fr.sub_cons (by kernel_rfl) (Fr.sub_nil _)))) (L26 _ _ _ hF)
        refine W.blockK (by kernel_rfl) (fun K14 n14 s14 o14 r14 p14 => ?_)
        refine W.loopK (by kernel_rfl) (fun I41 K41 b41 n41 e41 r41 p41 => ?_)
        have L41 : ∀ (m : Nat) (t3 : Int) (h_42 : AHeap), ref12_Name_L1 call t0 k15 m t3 h_42 = some (rR, hR) → Go w0 m0 (Func.ntmps Try.f12) I41 [(0, strA t0), (3, .int .i64 t3)] [] h_42 := by
          intro m
          induction m with
          | zero => intro t3 h_42 hF; cases hF
          | succ m ih41 =>
            intro t3 h_42 hF
            rw [ref12_Name_L1_s] at hF; unfold ref12_Name_L1b at hF
            refine b41 ?_
            refine W.seqK (by kernel_rfl) (fun K43 n43 e43 r43 p43 => ?_)
            refine W.seqK (by kernel_rfl) (fun K44 n44 e44 r44 p44 => ?_)
            refine W.region (by kernel_rfl) ?_
            refine WL.val (d := (some 20)) (v := .int .i64 t3) (h' := h_42) (by kernel_rfl) (by kernel_rfl) (by kernel_rfl) ?_
            refine WL.val (d := (some 21)) (v := strA t0) (h' := h_42) (by kernel_rfl) (by kernel_rfl) (by kernel_rfl) ?_
            refine WL.val (d := (some 22)) (v := .int .i64 (lenS t0)) (h' := h_42) (by kernel_rfl) (by kernel_rfl) (by kernel_rfl) ?_
            replace hF := lett_some hF; obtain ⟨t23, e45, hF⟩ := hF
            refine WL.val (d := (some 23)) (v := .bool t23) (h' := h_42) (by kernel_rfl) (by kernel_rfl) (val_of AV.bool e45 (by kernel_rfl)) ?_
            refine WL.nil (by kernel_rfl) ?_
            refine Go.weaken (l' := [(0, strA t0), (3, .int .i64 t3), (23, .bool t23)]) (Fr.sub_cons (by kernel_rfl) (Fr.sub_cons (by kernel_rfl) (Fr.sub_cons (by kernel_rfl) (Fr.sub_nil _)))) ?_
            refine n44 ?_
            cases t23 with
            | true =>
              replace hF := ifB_t hF
              refine W.cond_true (by kernel_rfl) (by kernel_rfl) ?_
              refine W.skip (by kernel_rfl) ?_
              refine n43 ?_
              refine W.seqK (by kernel_rfl) (fun K46 n46 e46 r46 p46 => ?_)
              refine W.blockK (by kernel_rfl) (fun K47 n47 s47 o47 r47 p47 => ?_)
              refine W.seqK (by kernel_rfl) (fun K48 n48 e48 r48 p48 => ?_)
              refine W.region (by kernel_rfl) ?_
              refine WL.val (d := (some 26)) (v := strA t0) (h' := h_42) (by kernel_rfl) (by kernel_rfl) (by kernel_rfl) ?_
              refine WL.val (d := (some 27)) (v := .int .i64 t3) (h' := h_42) (by kernel_rfl) (by kernel_rfl) (by kernel_rfl) ?_
              replace hF := obind_some hF; obtain ⟨t28, e49, hF⟩ := hF
              refine WL.val (d := (some 28)) (v := .int .u8 t28) (h' := h_42) (by kernel_rfl) (by kernel_rfl) (Eq.trans (by kernel_rfl) (index_str (P := Try.prog) (h := h_42) (t := 9) (k := .i64) (by kernel_rfl) e49)) ?_
              replace hF := callN_some hF; obtain ⟨r29, h_50, e51, hF⟩ := hF
              replace hF := obind_some hF; obtain ⟨t29, c52, hF⟩ := hF
              have c52 := avBool_some c52
              subst c52
              refine WL.call (hc.ok w0) (d := (some 29)) (by kernel_rfl) (by kernel_rfl) (by kernel_rfl) e51 ?_
              replace hF := lett_some hF; obtain ⟨t30, e53, hF⟩ := hF
              refine WL.val (d := (some 30)) (v := .bool t30) (h' := h_50) (by kernel_rfl) (by kernel_rfl) (val_of AV.bool e53 (by kernel_rfl)) ?_
              refine WL.nil (by kernel_rfl) ?_
              refine Go.weaken (l' := [(0, strA t0), (3, .int .i64 t3), (30, .bool t30)]) (Fr.sub_cons (by kernel_rfl) (Fr.sub_cons (by kernel_rfl) (Fr.sub_cons (by kernel_rfl) (Fr.sub_nil _)))) ?_
              refine n48 ?_
              cases t30 with
              | true =>
                replace hF := ifB_t hF
                refine W.cond_true (by kernel_rfl) (by kernel_rfl) ?_
                refine W.seqK (by kernel_rfl) (fun K54 n54 e54 r54 p54 => ?_)
                refine W.region (by kernel_rfl) ?_
                refine WL.val (d := (some 2)) (v := .bool false) (h' := h_50) (by kernel_rfl) (by kernel_rfl) (by kernel_rfl) ?_
                refine WL.nil (by kernel_rfl) ?_
                refine Go.weaken (l' := [(2, .bool false)]) (Fr.sub_cons (by kernel_rfl) (Fr.sub_nil _)) ?_
                refine n54 ?_
                refine W.ret (by kernel_rfl) ?_
                refine r47 ?_
                refine r46 ?_
                refine r41 ?_
                refine r14 ?_
                refine r12 ?_
                obtain ⟨hF, hF2⟩ := ret_inj hF; subst hF; subst hF2
                exact leave_of (rs := [.tmp 2]) (vs := [.bool false]) (by kernel_rfl) (res_tmp (by kernel_rfl) res_nil) (by kernel_rfl)
              | false =>
                replace hF := ifB_f hF
                refine W.cond_false (by kernel_rfl) (by kernel_rfl) ?_
                refine W.skip (by kernel_rfl) ?_
                refine n47 ?_
                refine n46 ?_
                refine W.region (by kernel_rfl) ?_
                refine WL.val (d := (some 24)) (v := .int .i64 t3) (h' := h_50) (by kernel_rfl) (by kernel_rfl) (by kernel_rfl) ?_
                replace hF := lett_some hF; obtain ⟨t25, e55, hF⟩ := hF
                refine WL.val (d := (some 25)) (v := .int .i64 t25) (h' := h_50) (by kernel_rfl) (by kernel_rfl) (val_of (AV.int .i64) e55 (by kernel_rfl)) ?_
                refine WL.val (d := (some 3)) (v := .int .i64 t25) (h' := h_50) (by kernel_rfl) (by kernel_rfl) (by kernel_rfl) ?_
                refine WL.nil (by kernel_rfl) ?_
                refine Go.weaken (l' := [(0, strA t0), (3, .int .i64 t25)]) (Fr.sub_cons (by kernel_rfl) (Fr.sub_cons (by kernel_rfl) (Fr.sub_nil _))) ?_
                refine n41 ?_
                exact Go.weaken (Fr.sub_cons (by kernel_rfl) (Fr.sub_cons (by kernel_rfl) (Fr.sub_nil _))) (ih41 _ _ hF)
            | false =>
              replace hF := ifB_f hF
              refine W.cond_false (by kernel_rfl) (by kernel_rfl) ?_
              refine W.exit (by kernel_rfl) ?_
              refine e43 ?_
              refine e41 ?_
              refine s14 (by kernel_rfl) ?_
              exact Go.weaken (Fr.sub_cons (by kernel_rfl) (Fr.sub_nil _)) (J15 _ hF)
        exact Go.weaken (Fr.sub_cons (by kernel_rfl) (Fr.sub_cons (by kernel_rfl) (Fr.sub_nil _))) (L41 _ _ _ hF)
    cases t13 with
    | true =>
      replace hF := ifB_t hF
      refine WL.not (d := (some 15)) (by kernel_rfl) (by kernel_rfl) ?_
      refine WL.not (d := (some 16)) (by kernel_rfl) (by kernel_rfl) ?_
      refine WL.not (d := (some 17)) (by kernel_rfl) (by kernel_rfl) ?_
      refine WL.not (d := (some 18)) (by kernel_rfl) (by kernel_rfl) ?_
      refine WL.val (d := (some 19)) (v := .bool true) (h' := h_5) (by kernel_rfl) (by kernel_rfl) (by kernel_rfl) ?_
      exact WL.weaken (Fr.sub_cons (by kernel_rfl) (Fr.sub_cons (by kernel_rfl) (Fr.sub_nil _))) (J10 _ _ hF)
    | false =>
      replace hF := ifB_f hF
      refine WL.val (d := (some 15)) (v := strA t0) (h' := h_5) (by kernel_rfl) (by kernel_rfl) (by kernel_rfl) ?_
      replace hF := obind_some hF; obtain ⟨t16, e56, hF⟩ := hF
      refine WL.val (d := (some 16)) (v := .int .u8 t16) (h' := h_5) (by kernel_rfl) (by kernel_rfl) (Eq.trans (by kernel_rfl) (index_str (P := Try.prog) (h := h_5) (t := 9) (k := .i64) (by kernel_rfl) e56)) ?_
      replace hF := callN_some hF; obtain ⟨r17, h_57, e58, hF⟩ := hF
      replace hF := obind_some hF; obtain ⟨t17, c59, hF⟩ := hF
      have c59 := avBool_some c59
      subst c59
      refine WL.call (hc.ok w0) (d := (some 17)) (by kernel_rfl) (by kernel_rfl) (by kernel_rfl) e58 ?_
      replace hF := lett_some hF; obtain ⟨t18, e60, hF⟩ := hF
      refine WL.val (d := (some 18)) (v := .bool t18) (h' := h_57) (by kernel_rfl) (by kernel_rfl) (val_of AV.bool e60 (by kernel_rfl)) ?_
      refine WL.val (d := (some 19)) (v := .bool t18) (h' := h_57) (by kernel_rfl) (by kernel_rfl) (by kernel_rfl) ?_
      exact WL.weaken (Fr.sub_cons (by kernel_rfl) (Fr.sub_cons (by kernel_rfl) (Fr.sub_nil _))) (J10 _ _ hF)
  cases t8 with
  | true =>
    replace hF := ifB_t hF
    refine WL.not (d := (some 10)) (by kernel_rfl) (by kernel_rfl) ?_
    refine WL.not (d := (some 11)) (by kernel_rfl) (by kernel_rfl) ?_
    refine WL.not (d := (some 12)) (by kernel_rfl) (by kernel_rfl) ?_
    refine WL.val (d := (some 13)) (v := .bool true) (h' := h) (by kernel_rfl) (by kernel_rfl) (by kernel_rfl) ?_
    exact WL.weaken (Fr.sub_cons (by kernel_rfl) (Fr.sub_cons (by kernel_rfl) (Fr.sub_nil _))) (J7 _ _ hF)
  | false =>
    replace hF := ifB_f hF
    refine WL.val (d := (some 10)) (v := strA t0) (h' := h) (by kernel_rfl) (by kernel_rfl) (by kernel_rfl) ?_
    refine WL.val (d := (some 11)) (v := .int .i64 (lenS t0)) (h' := h) (by kernel_rfl) (by kernel_rfl) (by kernel_rfl) ?_
    replace hF := lett_some hF; obtain ⟨t12, e61, hF⟩ := hF
    refine WL.val (d := (some 12)) (v := .bool t12) (h' := h) (by kernel_rfl) (by kernel_rfl) (val_of AV.bool e61 (by kernel_rfl)) ?_
    refine WL.val (d := (some 13)) (v := .bool t12) (h' := h) (by kernel_rfl) (by kernel_rfl) (by kernel_rfl) ?_
    exact WL.weaken (Fr.sub_cons (by kernel_rfl) (Fr.sub_cons (by kernel_rfl) (Fr.sub_nil _))) (J7 _ _ hF)
noncomputable def ref12_Name_fn (call : CallF) (n : Nat) : FnT := fun args h => match args with
  | [x0] => obind (avStr x0) fun t0 => ref12_Name call n t0 h
  | _ => none
theorem ref12_Name_fn_eq (call : CallF) (n : Nat) (t0 : Bytes) (h : AHeap) : ref12_Name_fn call n [strA t0] h = ref12_Name call n t0 h :=
  (Eq.trans (obind_eq (fun t0 => ref12_Name call n t0 h) (avStr_str t0)) rfl)
theorem ref12_Name_holds {call : CallF} (hc : SaysAll Try.prog call) (n : Nat) : Holds Try.prog 12 (ref12_Name_fn call n) := by
  intro args h r h2 e
  unfold ref12_Name_fn at e
  split at e
  · replace e := obind_some e; obtain ⟨t0, c0, e⟩ := e; have c0 := avStr_some c0; subst c0
    exact ref12_Name_ok hc e
  · cases e

noncomputable def ref12_first (_ : CallF) (_ : Nat) (t0 : Int) (h : AHeap) : R :=
  lett (decide (t0 ≥ 97)) fun (t4 : Bool) =>
  lett (fun (t8 : Bool) (h_4 : AHeap) =>
    some (.ret (.bool t8), h_4)) fun j8 =>
  ifB t4
  (
    lett (decide (t0 ≤ 122)) fun (t7 : Bool) =>
    j8 t7 h)
  (
    j8 false h)
set_option maxHeartbeats 4000000 in
set_option maxRecDepth 20000 in
theorem ref12_first_ok {call : CallF} (_ : SaysAll Try.prog call) {n : Nat} {t0 : Int} {h : AHeap} {rR : ARes} {hR : AHeap} (hF : ref12_first call n t0 h = some (rR, hR)) : Says Try.prog 18 [.int .u8 t0] h rR hR := by
  unfold ref12_first at hF
  refine says_of (fn := Try.f18) Try.func18 (c := codeOf Try.f18) (by kernel_rfl) (by kernel_rfl) (fun w0 m0 => ?_)
  refine W.weaken (l' := [(0, .int .u8 t0)]) (Fr.sub_cons (by kernel_rfl) (Fr.sub_nil _)) ?_
  refine W.seqK (by kernel_rfl) (fun K1 n1 e1 r1 p1 => ?_)
  refine W.region (by kernel_rfl) ?_
  refine WL.val (d := (some 2)) (v := .bool false) (h' := h) (by kernel_rfl) (by kernel_rfl) (by kernel_rfl) ?_
  refine WL.nil (by kernel_rfl) ?_
  refine Go.weaken (l' := [(0, .int .u8 t0)]) (Fr.sub_cons (by kernel_rfl) (Fr.sub_nil _)) ?_
  refine n1 ?_
  refine W.seqK (by kernel_rfl) (fun K2 n2 e2 r2 p2 => ?_)
  refine W.region (by kernel_rfl) ?_
  refine WL.val (d := (some 3)) (v := .int .u8 t0) (h' := h) (by kernel_rfl) (by kernel_rfl) (by kernel_rfl) ?_
  replace hF := lett_some hF; obtain ⟨t4, e3, hF⟩ := hF
  refine WL.val (d := (some 4)) (v := .bool t4) (h' := h) (by kernel_rfl) (by kernel_rfl) (val_of AV.bool e3 (by kernel_rfl)) ?_
  refine WL.val (d := (some 5)) (v := .bool t4) (h' := h) (by kernel_rfl) (by kernel_rfl) (by kernel_rfl) ?_
  replace hF := lett_some hF; obtain ⟨j8, e5, hF⟩ := hF
  have J6 : ∀ (t8 : Bool) (h_4 : AHeap), j8 t8 h_4 = some (rR, hR) → WL Try.prog w0 m0 (Func.ntmps Try.f18) (Code.ops (Code.p1 (Code.p2 (codeOf Try.f18)))) 6 K2 [(8, .bool t8)] [] h_4 := by
    intro t8 h_4 hF
    rw [e5] at hF
    refine WL.val (d := (some 2)) (v := .bool t8) (h' := h_4) (by kernel_rfl) (by kernel_rfl) (by kernel_rfl) ?_
    refine WL.nil (by kernel_rfl) ?_
    refine Go.weaken (l' := [(2, .bool t8)]) (Fr.sub_cons (by kernel_rfl) (Fr.sub_nil _)) ?_
    refine n2 ?_
    refine W.ret (by kernel_rfl) ?_
    obtain ⟨hF, hF2⟩ := ret_inj hF; subst hF; subst hF2
    exact leave_of (rs := [.tmp 2]) (vs := [.bool t8]) (by kernel_rfl) (res_tmp (by kernel_rfl) res_nil) (by kernel_rfl)
  cases t4 with
  | true =>
    replace hF := ifB_t hF
    refine WL.val (d := (some 6)) (v := .int .u8 t0) (h' := h) (by kernel_rfl) (by kernel_rfl) (by kernel_rfl) ?_
    replace hF := lett_some hF; obtain ⟨t7, e7, hF⟩ := hF
    refine WL.val (d := (some 7)) (v := .bool t7) (h' := h) (by kernel_rfl) (by kernel_rfl) (val_of AV.bool e7 (by kernel_rfl)) ?_
    refine WL.val (d := (some 8)) (v := .bool t7) (h' := h) (by kernel_rfl) (by kernel_rfl) (by kernel_rfl) ?_
    exact WL.weaken (Fr.sub_cons (by kernel_rfl) (Fr.sub_nil _)) (J6 _ _ hF)
  | false =>
    replace hF := ifB_f hF
    refine WL.not (d := (some 6)) (by kernel_rfl) (by kernel_rfl) ?_
    refine WL.not (d := (some 7)) (by kernel_rfl) (by kernel_rfl) ?_
    refine WL.val (d := (some 8)) (v := .bool false) (h' := h) (by kernel_rfl) (by kernel_rfl) (by kernel_rfl) ?_
    exact WL.weaken (Fr.sub_cons (by kernel_rfl) (Fr.sub_nil _)) (J6 _ _ hF)
noncomputable def ref12_first_fn (call : CallF) (n : Nat) : FnT := fun args h => match args with
  | [x0] => obind (avInt .u8 x0) fun t0 => ref12_first call n t0 h
  | _ => none
theorem ref12_first_fn_eq (call : CallF) (n : Nat) (t0 : Int) (h : AHeap) : ref12_first_fn call n [.int .u8 t0] h = ref12_first call n t0 h :=
  (Eq.trans (obind_eq (fun t0 => ref12_first call n t0 h) (avInt_int .u8 t0)) rfl)
theorem ref12_first_holds {call : CallF} (hc : SaysAll Try.prog call) (n : Nat) : Holds Try.prog 18 (ref12_first_fn call n) := by
  intro args h r h2 e
  unfold ref12_first_fn at e
  split at e
  · replace e := obind_some e; obtain ⟨t0, c0, e⟩ := e; have c0 := avInt_some c0; subst c0
    exact ref12_first_ok hc e
  · cases e

noncomputable def ref12_In (call : CallF) (_ : Nat) (t0 : Int) (h : AHeap) : R :=
  callN (call 18 [.int .u8 t0] h) fun r4 h_3 =>
  obind (avBool r4) fun t4 =>
  lett (fun (t8 : Bool) (h_6 : AHeap) =>
    lett (fun (t12 : Bool) (h_9 : AHeap) =>
      lett (fun (t16 : Bool) (h_12 : AHeap) =>
        some (.ret (.bool t16), h_12)) fun j16 =>
      ifB t12
      (
        j16 true h_9)
      (
        lett ((t0 : Int) == 45) fun (t15 : Bool) =>
        j16 t15 h_9)) fun j12 =>
    ifB t8
    (
      j12 true h_6)
    (
      lett ((t0 : Int) == 95) fun (t11 : Bool) =>
      j12 t11 h_6)) fun j8 =>
  ifB t4
  (
    j8 true h_3)
  (
    callN (call 24 [.int .u8 t0] h_3) fun r7 h_17 =>
    obind (avBool r7) fun t7 =>
    j8 t7 h_17)
set_option maxHeartbeats 4000000 in
set_option maxRecDepth 20000 in
theorem ref12_In_ok {call : CallF} (hc : SaysAll Try.prog call) {n : Nat} {t0 : Int} {h : AHeap} {rR : ARes} {hR : AHeap} (hF : ref12_In call n t0 h = some (rR, hR)) : Says Try.prog 19 [.int .u8 t0] h rR hR := by
  unfold ref12_In at hF
  refine says_of (fn := Try.f19) Try.func19 (c := codeOf Try.f19) (by kernel_rfl) (by kernel_rfl) (fun w0 m0 => ?_)
  refine W.weaken (l' := [(0, .int .u8 t0)]) (Fr.sub_cons (by kernel_rfl) (Fr.sub_nil _)) ?_
  refine W.seqK (by kernel_rfl) (fun K1 n1 e1 r1 p1 => ?_)
  refine W.region (by kernel_rfl) ?_
  refine WL.val (d := (some 2)) (v := .bool false) (h' := h) (by kernel_rfl) (by kernel_rfl) (by kernel_rfl) ?_
  refine WL.nil (by kernel_rfl) ?_
  refine Go.weaken (l' := [(0, .int .u8 t0)]) (Fr.sub_cons (by kernel_rfl) (Fr.sub_nil _)) ?_
  refine n1 ?_
  refine W.seqK (by kernel_rfl) (fun K2 n2 e2 r2 p2 => ?_)
  refine W.region (by kernel_rfl) ?_
  refine WL.val (d := (some 3)) (v := .int .u8 t0) (h' := h) (by kernel_rfl) (by kernel_rfl) (by kernel_rfl) ?_
  replace hF := callN_some hF; obtain ⟨r4, h_3, e4, hF⟩ := hF
  replace hF := obind_some hF; obtain ⟨t4, c5, hF⟩ := hF
  have c5 := avBool_some c5
  subst c5
  refine WL.call (hc.ok w0) (d := (some 4)) (by kernel_rfl) (by kernel_rfl) (by kernel_rfl) e4 ?_
  refine WL.val (d := (some 5)) (v := .bool t4) (h' := h_3) (by kernel_rfl) (by kernel_rfl) (by kernel_rfl) ?_
  replace hF := lett_some hF; obtain ⟨j8, e7, hF⟩ := hF
  have J8 : ∀ (t8 : Bool) (h_6 : AHeap), j8 t8 h_6 = some (rR, hR) → WL Try.prog w0 m0 (Func.ntmps Try.f19) (Code.ops (Code.p1 (Code.p2 (codeOf Try.f19)))) 6 K2 [(0, .int .u8 t0), (8, .bool t8)] [] h_6 := by
    intro t8 h_6 hF
    rw [e7] at hF
    refine WL.val (d := (some 9)) (v := .bool t8) (h' := h_6) (by kernel_rfl) (by kernel_rfl) (by kernel_rfl) ?_
    replace hF := lett_some hF; obtain ⟨j12, e10, hF⟩ := hF
    have J11 : ∀ (t12 : Bool) (h_9 : AHeap), j12 t12 h_9 = some (rR, hR) → WL Try.prog w0 m0 (Func.ntmps Try.f19) (Code.ops (Code.p1 (Code.p2 (codeOf Try.f19)))) 10 K2 [(0, .int .u8 t0), (12, .bool t12)] [] h_9 := by
      intro t12 h_9 hF
      rw [e10] at hF
      refine WL.val (d := (some 13)) (v := .bool t12) (h' := h_9) (by kernel_rfl) (by kernel_rfl) (by kernel_rfl) ?_
      replace hF := lett_some hF; obtain ⟨j16, e13, hF⟩ := hF
      have J14 : ∀ (t16 : Bool) (h_12 : AHeap), j16 t16 h_12 = some (rR, hR) → WL Try.prog w0 m0 (Func.ntmps Try.f19) (Code.ops (Code.p1 (Code.p2 (codeOf Try.f19)))) 14 K2 [(16, .bool t16)] [] h_12 := by
        intro t16 h_12 hF
        rw [e13] at hF
        refine WL.val (d := (some 2)) (v := .bool t16) (h' := h_12) (by kernel_rfl) (by kernel_rfl) (by kernel_rfl) ?_
        refine WL.nil (by kernel_rfl) ?_
        refine Go.weaken (l' := [(2, .bool t16)]) (Fr.sub_cons (by kernel_rfl) (Fr.sub_nil _)) ?_
        refine n2 ?_
        refine W.ret (by kernel_rfl) ?_
        obtain ⟨hF, hF2⟩ := ret_inj hF; subst hF; subst hF2
        exact leave_of (rs := [.tmp 2]) (vs := [.bool t16]) (by kernel_rfl) (res_tmp (by kernel_rfl) res_nil) (by kernel_rfl)
      cases t12 with
      | true =>
        replace hF := ifB_t hF
        refine WL.not (d := (some 14)) (by kernel_rfl) (by kernel_rfl) ?_
        refine WL.not (d := (some 15)) (by kernel_rfl) (by kernel_rfl) ?_
        refine WL.val (d := (some 16)) (v := .bool true) (h' := h_9) (by kernel_rfl) (by kernel_rfl) (by kernel_rfl) ?_
        exact WL.weaken (Fr.sub_cons (by kernel_rfl) (Fr.sub_nil _)) (J14 _ _ hF)
      | false =>
        replace hF := ifB_f hF
        refine WL.val (d := (some 14)) (v := .int .u8 t0) (h' := h_9) (by kernel_rfl) (by kernel_rfl) (by kernel_rfl) ?_
        replace hF := lett_some hF; obtain ⟨t15, e15, hF⟩ := hF
        refine WL.val (d := (some 15)) (v := .bool t15) (h' := h_9) (by kernel_rfl) (by kernel_rfl) (val_of AV.bool e15 (by kernel_rfl)) ?_
        refine WL.val (d := (some 16)) (v := .bool t15) (h' := h_9) (by kernel_rfl) (by kernel_rfl) (by kernel_rfl) ?_
        exact WL.weaken (Fr.sub_cons (by kernel_rfl) (Fr.sub_nil _)) (J14 _ _ hF)
    cases t8 with
    | true =>
      replace hF := ifB_t hF
      refine WL.not (d := (some 10)) (by kernel_rfl) (by kernel_rfl) ?_
      refine WL.not (d := (some 11)) (by kernel_rfl) (by kernel_rfl) ?_
      refine WL.val (d := (some 12)) (v := .bool true) (h' := h_6) (by kernel_rfl) (by kernel_rfl) (by kernel_rfl) ?_
      exact WL.weaken (Fr.sub_cons (by kernel_rfl) (Fr.sub_cons (by kernel_rfl) (Fr.sub_nil _))) (J11 _ _ hF)
    | false =>
      replace hF := ifB_f hF
      refine WL.val (d := (some 10)) (v := .int .u8 t0) (h' := h_6) (by kernel_rfl) (by kernel_rfl) (by kernel_rfl) ?_
      replace hF := lett_some hF; obtain ⟨t11, e16, hF⟩ := hF
      refine WL.val (d := (some 11)) (v := .bool t11) (h' := h_6) (by kernel_rfl) (by kernel_rfl) (val_of AV.bool e16 (by kernel_rfl)) ?_
      refine WL.val (d := (some 12)) (v := .bool t11) (h' := h_6) (by kernel_rfl) (by kernel_rfl) (by kernel_rfl) ?_
      exact WL.weaken (Fr.sub_cons (by kernel_rfl) (Fr.sub_cons (by kernel_rfl) (Fr.sub_nil _))) (J11 _ _ hF)
  cases t4 with
  | true =>
    replace hF := ifB_t hF
    refine WL.not (d := (some 6)) (by kernel_rfl) (by kernel_rfl) ?_
    refine WL.not (d := (some 7)) (by kernel_rfl) (by kernel_rfl) ?_
    refine WL.val (d := (some 8)) (v := .bool true) (h' := h_3) (by kernel_rfl) (by kernel_rfl) (by kernel_rfl) ?_
    exact WL.weaken (Fr.sub_cons (by kernel_rfl) (Fr.sub_cons (by kernel_rfl) (Fr.sub_nil _))) (J8 _ _ hF)
  | false =>
    replace hF := ifB_f hF
    refine WL.val (d := (some 6)) (v := .int .u8 t0) (h' := h_3) (by kernel_rfl) (by kernel_rfl) (by kernel_rfl) ?_
    replace hF := callN_some hF; obtain ⟨r7, h_17, e18, hF⟩ := hF
    replace hF := obind_some hF; obtain ⟨t7, c19, hF⟩ := hF
    have c19 := avBool_some c19
    subst c19
    refine WL.call (hc.ok w0) (d := (some 7)) (by kernel_rfl) (by kernel_rfl) (by kernel_rfl) e18 ?_
    refine WL.val (d := (some 8)) (v := .bool t7) (h' := h_17) (by kernel_rfl) (by kernel_rfl) (by kernel_rfl) ?_
    exact WL.weaken (Fr.sub_cons (by kernel_rfl) (Fr.sub_cons (by kernel_rfl) (Fr.sub_nil _))) (J8 _ _ hF)
noncomputable def ref12_In_fn (call : CallF) (n : Nat) : FnT := fun args h => match args with
  | [x0] => obind (avInt .u8 x0) fun t0 => ref12_In call n t0 h
  | _ => none
theorem ref12_In_fn_eq (call : CallF) (n : Nat) (t0 : Int) (h : AHeap) : ref12_In_fn call n [.int .u8 t0] h = ref12_In call n t0 h :=
  (Eq.trans (obind_eq (fun t0 => ref12_In call n t0 h) (avInt_int .u8 t0)) rfl)
theorem ref12_In_holds {call : CallF} (hc : SaysAll Try.prog call) (n : Nat) : Holds Try.prog 19 (ref12_In_fn call n) := by
  intro args h r h2 e
  unfold ref12_In_fn at e
  split at e
  · replace e := obind_some e; obtain ⟨t0, c0, e⟩ := e; have c0 := avInt_some c0; subst c0
    exact ref12_In_ok hc e
  · cases e

noncomputable def ref12_number (_ : CallF) (_ : Nat) (t0 : Int) (h : AHeap) : R :=
  lett (decide (t0 ≥ 48)) fun (t4 : Bool) =>
  lett (fun (t8 : Bool) (h_4 : AHeap) =>
    some (.ret (.bool t8), h_4)) fun j8 =>
  ifB t4
  (
    lett (decide (t0 ≤ 57)) fun (t7 : Bool) =>
    j8 t7 h)
  (
    j8 false h)
set_option maxHeartbeats 4000000 in
set_option maxRecDepth 20000 in
theorem ref12_number_ok {call : CallF} (_ : SaysAll Try.prog call) {n : Nat} {t0 : Int} {h : AHeap} {rR : ARes} {hR : AHeap} (hF : ref12_number call n t0 h = some (rR, hR)) : Says Try.prog 24 [.int .u8 t0] h rR hR := by
  unfold ref12_number at hF
  refine says_of (fn := Try.f24) Try.func24 (c := codeOf Try.f24) (by kernel_rfl) (by kernel_rfl) (fun w0 m0 => ?_)
  refine W.weaken (l' := [(0, .int .u8 t0)]) (Fr.sub_cons (by kernel_rfl) (Fr.sub_nil _)) ?_
  refine W.seqK (by kernel_rfl) (fun K1 n1 e1 r1 p1 => ?_)
  refine W.region (by kernel_rfl) ?_
  refine WL.val (d := (some 2)) (v := .bool false) (h' := h) (by kernel_rfl) (by kernel_rfl) (by kernel_rfl) ?_
  refine WL.nil (by kernel_rfl) ?_
  refine Go.weaken (l' := [(0, .int .u8 t0)]) (Fr.sub_cons (by kernel_rfl) (Fr.sub_nil _)) ?_
  refine n1 ?_
  refine W.seqK (by kernel_rfl) (fun K2 n2 e2 r2 p2 => ?_)
  refine W.region (by kernel_rfl) ?_
  refine WL.val (d := (some 3)) (v := .int .u8 t0) (h' := h) (by kernel_rfl) (by kernel_rfl) (by kernel_rfl) ?_
  replace hF := lett_some hF; obtain ⟨t4, e3, hF⟩ := hF
  refine WL.val (d := (some 4)) (v := .bool t4) (h' := h) (by kernel_rfl) (by kernel_rfl) (val_of AV.bool e3 (by kernel_rfl)) ?_
  refine WL.val (d := (some 5)) (v := .bool t4) (h' := h) (by kernel_rfl) (by kernel_rfl) (by kernel_rfl) ?_
  replace hF := lett_some hF; obtain ⟨j8, e5, hF⟩ := hF
  have J6 : ∀ (t8 : Bool) (h_4 : AHeap), j8 t8 h_4 = some (rR, hR) → WL Try.prog w0 m0 (Func.ntmps Try.f24) (Code.ops (Code.p1 (Code.p2 (codeOf Try.f24)))) 6 K2 [(8, .bool t8)] [] h_4 := by
    intro t8 h_4 hF
    rw [e5] at hF
    refine WL.val (d := (some 2)) (v := .bool t8) (h' := h_4) (by kernel_rfl) (by kernel_rfl) (by kernel_rfl) ?_
    refine WL.nil (by kernel_rfl) ?_
    refine Go.weaken (l' := [(2, .bool t8)]) (Fr.sub_cons (by kernel_rfl) (Fr.sub_nil _)) ?_
    refine n2 ?_
    refine W.ret (by kernel_rfl) ?_
    obtain ⟨hF, hF2⟩ := ret_inj hF; subst hF; subst hF2
    exact leave_of (rs := [.tmp 2]) (vs := [.bool t8]) (by kernel_rfl) (res_tmp (by kernel_rfl) res_nil) (by kernel_rfl)
  cases t4 with
  | true =>
    replace hF := ifB_t hF
    refine WL.val (d := (some 6)) (v := .int .u8 t0) (h' := h) (by kernel_rfl) (by kernel_rfl) (by kernel_rfl) ?_
    replace hF := lett_some hF; obtain ⟨t7, e7, hF⟩ := hF
    refine WL.val (d := (some 7)) (v := .bool t7) (h' := h) (by kernel_rfl) (by kernel_rfl) (val_of AV.bool e7 (by kernel_rfl)) ?_
    refine WL.val (d := (some 8)) (v := .bool t7) (h' := h) (by kernel_rfl) (by kernel_rfl) (by kernel_rfl) ?_
    exact WL.weaken (Fr.sub_cons (by kernel_rfl) (Fr.sub_nil _)) (J6 _ _ hF)
  | false =>
    replace hF := ifB_f hF
    refine WL.not (d := (some 6)) (by kernel_rfl) (by kernel_rfl) ?_
    refine WL.not (d := (some 7)) (by kernel_rfl) (by kernel_rfl) ?_
    refine WL.val (d := (some 8)) (v := .bool false) (h' := h) (by kernel_rfl) (by kernel_rfl) (by kernel_rfl) ?_
    exact WL.weaken (Fr.sub_cons (by kernel_rfl) (Fr.sub_nil _)) (J6 _ _ hF)
noncomputable def ref12_number_fn (call : CallF) (n : Nat) : FnT := fun args h => match args with
  | [x0] => obind (avInt .u8 x0) fun t0 => ref12_number call n t0 h
  | _ => none
theorem ref12_number_fn_eq (call : CallF) (n : Nat) (t0 : Int) (h : AHeap) : ref12_number_fn call n [.int .u8 t0] h = ref12_number call n t0 h :=
  (Eq.trans (obind_eq (fun t0 => ref12_number call n t0 h) (avInt_int .u8 t0)) rfl)
theorem ref12_number_holds {call : CallF} (hc : SaysAll Try.prog call) (n : Nat) : Holds Try.prog 24 (ref12_number_fn call n) := by
  intro args h r h2 e
  unfold ref12_number_fn at e
  split at e
  · replace e := obind_some e; obtain ⟨t0, c0, e⟩ := e; have c0 := avInt_some c0; subst c0
    exact ref12_number_ok hc e
  · cases e

noncomputable def ref12_Words (_ : CallF) (_ : Nat)  (h : AHeap) : R :=
  outK (bldSl Try.prog h 41 10 [(0, strA ([115, 101, 110, 100] : Bytes)), (1, strA ([115, 101, 116] : Bytes)), (2, strA ([105, 110, 99] : Bytes)), (3, strA ([105, 102] : Bytes)), (4, strA ([103, 111, 116, 111] : Bytes)), (5, strA ([101, 120, 105, 116] : Bytes)), (6, strA ([101, 120, 112, 101, 99, 116] : Bytes)), (7, strA ([116, 105, 109, 101, 111, 117, 116] : Bytes)), (8, strA ([103, 108, 111, 98] : Bytes)), (9, strA ([114, 101] : Bytes))]) fun v1 h_3 =>
  some (.ret (v1), h_3)
set_option maxHeartbeats 4000000 in
set_option maxRecDepth 20000 in
theorem ref12_Words_ok {call : CallF} (_ : SaysAll Try.prog call) {n : Nat}  {h : AHeap} {rR : ARes} {hR : AHeap} (hF : ref12_Words call n  h = some (rR, hR)) : Says Try.prog 20 [] h rR hR := by
  unfold ref12_Words at hF
  refine says_of (fn := Try.f20) Try.func20 (c := codeOf Try.f20) (by kernel_rfl) (by kernel_rfl) (fun w0 m0 => ?_)
  refine W.weaken (l' := []) (Fr.sub_nil _) ?_
  refine W.seqK (by kernel_rfl) (fun K1 n1 e1 r1 p1 => ?_)
  refine W.region (by kernel_rfl) ?_
  refine WL.val (d := (some 0)) (v := AV.nsl) (h' := h) (by kernel_rfl) (by kernel_rfl) (by kernel_rfl) ?_
  refine WL.nil (by kernel_rfl) ?_
  refine Go.weaken (l' := []) (Fr.sub_nil _) ?_
  refine n1 ?_
  refine W.seqK (by kernel_rfl) (fun K2 n2 e2 r2 p2 => ?_)
  refine W.region (by kernel_rfl) ?_
  replace hF := outK_some hF; obtain ⟨v1, h_3, e4, hF⟩ := hF
  refine WL.val (d := (some 1)) (v := v1) (h' := h_3) (by kernel_rfl) (by kernel_rfl) (Eq.trans (by kernel_rfl) e4) ?_
  refine WL.val (d := (some 0)) (v := v1) (h' := h_3) (by kernel_rfl) (by kernel_rfl) (by kernel_rfl) ?_
  refine WL.nil (by kernel_rfl) ?_
  refine Go.weaken (l' := [(0, v1)]) (Fr.sub_cons (by kernel_rfl) (Fr.sub_nil _)) ?_
  refine n2 ?_
  refine W.ret (by kernel_rfl) ?_
  obtain ⟨hF, hF2⟩ := ret_inj hF; subst hF; subst hF2
  exact leave_of (rs := [.tmp 0]) (vs := [v1]) (by kernel_rfl) (res_tmp (by kernel_rfl) res_nil) (by kernel_rfl)
noncomputable def ref12_Words_fn (call : CallF) (n : Nat) : FnT := fun args h => match args with
  | [] => ref12_Words call n  h
  | _ => none
theorem ref12_Words_fn_eq (call : CallF) (n : Nat)  (h : AHeap) : ref12_Words_fn call n [] h = ref12_Words call n  h :=
  rfl
theorem ref12_Words_holds {call : CallF} (hc : SaysAll Try.prog call) (n : Nat) : Holds Try.prog 20 (ref12_Words_fn call n) := by
  intro args h r h2 e
  unfold ref12_Words_fn at e
  split at e
  · exact ref12_Words_ok hc e
  · cases e

end Go.Proofs.Ytibddmlfoglfpaa
