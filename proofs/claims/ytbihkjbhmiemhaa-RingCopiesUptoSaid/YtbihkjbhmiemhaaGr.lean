/- Plain functions in place of the program's, and that their calls come to what they say. -/
import Derived.Test.YtbihkjbhmiemhaaFrame
import Derived.Test.YtbihkjbhmiemhaaAbs34
namespace Go.Proofs.Ytbihkjbhmiemhaa
open Go.RowKit Abs

noncomputable def ring_Ring_From (call : CallF) (_ : Nat) (t0 : AV) (t1 : Int) (t2 : Int) (h : AHeap) : R :=
  outK (opBin Try.prog h .eql 26 true (some t0) (some AV.nilp)) fun v12 h_4 =>
  obind (avBool v12) fun t12 =>
  ifB t12
  (
    some (.ret (.tup [strA ([] : Bytes), .int .i64 0, .int .i64 1]), h_4))
  (
    obind (nilC t0) fun t15 =>
    obind (fldP 1 t15) fun t16 =>
    obind (ldCell h_4 t16) fun v17 =>
    obind (avInt .i64 v17) fun t17 =>
    lett (decide (t1 > t17)) fun (t18 : Bool) =>
    lett (fun (t22 : Bool) (h_15 : AHeap) =>
      ifB t22
      (
        some (.ret (.tup [strA ([] : Bytes), .int .i64 0, .int .i64 5]), h_15))
      (
        callN (call 16 [t0] h_15) fun r25 h_20 =>
        obind (avInt .i64 r25) fun t25 =>
        lett (if t25 > t1 then t25 else t1) fun (t26 : Int) =>
        obind (nilC t0) fun t29 =>
        obind (fldP 1 t29) fun t30 =>
        obind (ldCell h_20 t30) fun v31 =>
        obind (avInt .i64 v31) fun t31 =>
        lett (IntKind.i64.wrap (t31 - t26)) fun (t33 : Int) =>
        lett (if t33 < t2 then t33 else t2) fun (t34 : Int) =>
        outK (opMakeSlice Try.prog h_20 44 (some (.int .i64 t34)) (some (.int .i64 t34))) fun v35 h_31 =>
        obind (nilC t0) fun t38 =>
        obind (fldP 2 t38) fun t39 =>
        obind (nilC t0) fun t42 =>
        obind (fldP 0 t42) fun t43 =>
        obind (ldCell h_31 t43) fun v44 =>
        obind (avInt .i64 v44) fun t44 =>
        obind (remI .i64 t26 t44) fun t45 =>
        obind (nilC t0) fun t47 =>
        obind (fldP 0 t47) fun t48 =>
        obind (ldCell h_31 t48) fun v49 =>
        obind (avInt .i64 v49) fun t49 =>
        outK (sliceA Try.prog h_31 45 t39 (some (.int .i64 t45)) (some (.int .i64 t49))) fun v50 h_45 =>
        outK (opCopy Try.prog h_45 44 v35 v50) fun v51 h_47 =>
        obind (avInt .i64 v51) fun t51 =>
        outK (sliceA Try.prog h_47 44 v35 (some (.int .i64 t51)) none) fun v54 h_51 =>
        obind (nilC t0) fun t56 =>
        obind (fldP 2 t56) fun t57 =>
        outK (sliceA Try.prog h_51 45 t57 none none) fun v58 h_55 =>
        outK (opCopy Try.prog h_55 44 v54 v58) fun v59 h_57 =>
        obind (avInt .i64 v59) fun _ =>
        outK (opConv Try.prog h_57 44 9 (some v35)) fun v61 h_61 =>
        obind (avStr v61) fun t61 =>
        some (.ret (.tup [strA t61, .int .i64 t26, .int .i64 0]), h_61))) fun j22 =>
    ifB t18
    (
      j22 true h_4)
    (
      lett (decide (t2 < 0)) fun (t21 : Bool) =>
      j22 t21 h_4))
set_option maxHeartbeats 4000000 in
set_option maxRecDepth 20000 in
theorem ring_Ring_From_ok {call : CallF} (hc : SaysAll Try.prog call) {n : Nat} {t0 : AV} {t1 : Int} {t2 : Int} {h : AHeap} {rR : ARes} {hR : AHeap} (hF : ring_Ring_From call n t0 t1 t2 h = some (rR, hR)) : Says Try.prog 13 [t0, .int .i64 t1, .int .i64 t2] h rR hR := by
  unfold ring_Ring_From at hF
  refine says_of (fn := Try.f13) Try.func13 (c := codeOf Try.f13) (by kernel_rfl) (by kernel_rfl) (fun w0 m0 => ?_)
  refine W.weaken (l' := [(0, t0), (1, .int .i64 t1), (2, .int .i64 t2)]) (Fr.sub_cons (by kernel_rfl) (Fr.sub_cons (by kernel_rfl) (Fr.sub_cons (by kernel_rfl) (Fr.sub_nil _)))) ?_
  refine W.seqK (by kernel_rfl) (fun K1 n1 e1 r1 p1 => ?_)
  refine W.region (by kernel_rfl) ?_
  refine WL.val (d := (some 6)) (v := strA ([] : Bytes)) (h' := h) (by kernel_rfl) (by kernel_rfl) (by kernel_rfl) ?_
  refine WL.val (d := (some 7)) (v := .int .i64 0) (h' := h) (by kernel_rfl) (by kernel_rfl) (by kernel_rfl) ?_
  refine WL.val (d := (some 8)) (v := .int .i64 0) (h' := h) (by kernel_rfl) (by kernel_rfl) (by kernel_rfl) ?_
  refine WL.nil (by kernel_rfl) ?_
  refine Go.weaken (l' := [(0, t0), (1, .int .i64 t1), (2, .int .i64 t2)]) (Fr.sub_cons (by kernel_rfl) (Fr.sub_cons (by kernel_rfl) (Fr.sub_cons (by kernel_rfl) (Fr.sub_nil _)))) ?_
  refine n1 ?_
  refine W.seqK (by kernel_rfl) (fun K2 n2 e2 r2 p2 => ?_)
  refine W.seqK (by kernel_rfl) (fun K3 n3 e3 r3 p3 => ?_)
  refine W.region (by kernel_rfl) ?_
  refine WL.val (d := (some 11)) (v := t0) (h' := h) (by kernel_rfl) (by kernel_rfl) (by kernel_rfl) ?_
  replace hF := outK_some hF; obtain ⟨v12, h_4, e5, hF⟩ := hF
  replace hF := obind_some hF; obtain ⟨t12, c6, hF⟩ := hF
  have c6 := avBool_some c6
  subst c6
  refine WL.val (d := (some 12)) (v := .bool t12) (h' := h_4) (by kernel_rfl) (by kernel_rfl) (Eq.trans (by kernel_rfl) e5) ?_
  refine WL.nil (by kernel_rfl) ?_
  refine Go.weaken (l' := [(0, t0), (1, .int .i64 t1), (2, .int .i64 t2), (12, .bool t12)]) (Fr.sub_cons (by kernel_rfl) (Fr.sub_cons (by kernel_rfl) (Fr.sub_cons (by kernel_rfl) (Fr.sub_cons (by kernel_rfl) (Fr.sub_nil _))))) ?_
  refine n3 ?_
  cases t12 with
  | true =>
    replace hF := ifB_t hF
    refine W.cond_true (by kernel_rfl) (by kernel_rfl) ?_
    refine W.seqK (by kernel_rfl) (fun K7 n7 e7 r7 p7 => ?_)
    refine W.region (by kernel_rfl) ?_
    refine WL.val (d := (some 6)) (v := strA ([] : Bytes)) (h' := h_4) (by kernel_rfl) (by kernel_rfl) (by kernel_rfl) ?_
    refine WL.val (d := (some 7)) (v := .int .i64 0) (h' := h_4) (by kernel_rfl) (by kernel_rfl) (by kernel_rfl) ?_
    refine WL.val (d := (some 8)) (v := .int .i64 1) (h' := h_4) (by kernel_rfl) (by kernel_rfl) (by kernel_rfl) ?_
    refine WL.nil (by kernel_rfl) ?_
    refine Go.weaken (l' := [(6, strA ([] : Bytes)), (7, .int .i64 0), (8, .int .i64 1)]) (Fr.sub_cons (by kernel_rfl) (Fr.sub_cons (by kernel_rfl) (Fr.sub_cons (by kernel_rfl) (Fr.sub_nil _)))) ?_
    refine n7 ?_
    refine W.ret (by kernel_rfl) ?_
    refine r2 ?_
    obtain ⟨hF, hF2⟩ := ret_inj hF; subst hF; subst hF2
    exact leave_of (rs := [.tmp 6, .tmp 7, .tmp 8]) (vs := [strA ([] : Bytes), .int .i64 0, .int .i64 1]) (by kernel_rfl) (res_tmp (by kernel_rfl) (res_tmp (by kernel_rfl) (res_tmp (by kernel_rfl) res_nil))) (by kernel_rfl)
  | false =>
    replace hF := ifB_f hF
    refine W.cond_false (by kernel_rfl) (by kernel_rfl) ?_
    refine W.skip (by kernel_rfl) ?_
    refine n2 ?_
    refine W.seqK (by kernel_rfl) (fun K8 n8 e8 r8 p8 => ?_)
    refine W.seqK (by kernel_rfl) (fun K9 n9 e9 r9 p9 => ?_)
    refine W.region (by kernel_rfl) ?_
    refine WL.val (d := (some 13)) (v := .int .i64 t1) (h' := h_4) (by kernel_rfl) (by kernel_rfl) (by kernel_rfl) ?_
    refine WL.val (d := (some 14)) (v := t0) (h' := h_4) (by kernel_rfl) (by kernel_rfl) (by kernel_rfl) ?_
    replace hF := obind_some hF; obtain ⟨t15, e10, hF⟩ := hF
    refine WL.val (d := (some 15)) (v := t15) (h' := h_4) (by kernel_rfl) (by kernel_rfl) (Eq.trans (by kernel_rfl) (nil_chk (h := h_4) e10)) ?_
    replace hF := obind_some hF; obtain ⟨t16, e11, hF⟩ := hF
    refine WL.val (d := (some 16)) (v := t16) (h' := h_4) (by kernel_rfl) (by kernel_rfl) (Eq.trans (by kernel_rfl) (field_ptr (P := Try.prog) (h := h_4) (s := 47) (f := 1) (by kernel_rfl) e11)) ?_
    replace hF := obind_some hF; obtain ⟨v17, e12, hF⟩ := hF
    replace hF := obind_some hF; obtain ⟨t17, c13, hF⟩ := hF
    have c13 := avInt_some c13
    subst c13
    refine WL.val (d := (some 17)) (v := .int .i64 t17) (h' := h_4) (by kernel_rfl) (by kernel_rfl) (Eq.trans (by kernel_rfl) (load_cell (P := Try.prog) (h := h_4) (t := 3) (by kernel_rfl) e12)) ?_
    replace hF := lett_some hF; obtain ⟨t18, e14, hF⟩ := hF
    refine WL.val (d := (some 18)) (v := .bool t18) (h' := h_4) (by kernel_rfl) (by kernel_rfl) (val_of AV.bool e14 (by kernel_rfl)) ?_
    refine WL.val (d := (some 19)) (v := .bool t18) (h' := h_4) (by kernel_rfl) (by kernel_rfl) (by kernel_rfl) ?_
    replace hF := lett_some hF; obtain ⟨j22, e16, hF⟩ := hF
    have J17 : ∀ (t22 : Bool) (h_15 : AHeap), j22 t22 h_15 = some (rR, hR) → WL Try.prog w0 m0 (Func.ntmps Try.f13) (Code.ops (Code.p1 (Code.p1 (Code.p2 (Code.p2 (codeOf Try.f13)))))) 10 K9 [(0, t0), (1, .int .i64 t1), (2, .int .i64 t2), (22, .bool t22)] [] h_15 := by
      intro t22 h_15 hF
      rw [e16] at hF
      refine WL.nil (by kernel_rfl) ?_
      refine Go.weaken (l' := [(0, t0), (1, .int .i64 t1), (2, .int .i64 t2), (22, .bool t22)]) (Fr.sub_cons (by kernel_rfl) (Fr.sub_cons (by kernel_rfl) (Fr.sub_cons (by kernel_rfl) (Fr.sub_cons (by kernel_rfl) (Fr.sub_nil _))))) ?_
      refine n9 ?_
      cases t22 with
      | true =>
        replace hF := ifB_t hF
        refine W.cond_true (by kernel_rfl) (by kernel_rfl) ?_
        refine W.seqK (by kernel_rfl) (fun K18 n18 e18 r18 p18 => ?_)
        refine W.region (by kernel_rfl) ?_
        refine WL.val (d := (some 6)) (v := strA ([] : Bytes)) (h' := h_15) (by kernel_rfl) (by kernel_rfl) (by kernel_rfl) ?_
        refine WL.val (d := (some 7)) (v := .int .i64 0) (h' := h_15) (by kernel_rfl) (by kernel_rfl) (by kernel_rfl) ?_
        refine WL.val (d := (some 8)) (v := .int .i64 5) (h' := h_15) (by kernel_rfl) (by kernel_rfl) (by kernel_rfl) ?_
        refine WL.nil (by kernel_rfl) ?_
        refine Go.weaken (l' := [(6, strA ([] : Bytes)), (7, .int .i64 0), (8, .int .i64 5)]) (Fr.sub_cons (by kernel_rfl) (Fr.sub_cons (by kernel_rfl) (Fr.sub_cons (by kernel_rfl) (Fr.sub_nil _)))) ?_
        refine n18 ?_
        refine W.ret (by kernel_rfl) ?_
        refine r8 ?_
        obtain ⟨hF, hF2⟩ := ret_inj hF; subst hF; subst hF2
        exact leave_of (rs := [.tmp 6, .tmp 7, .tmp 8]) (vs := [strA ([] : Bytes), .int .i64 0, .int .i64 5]) (by kernel_rfl) (res_tmp (by kernel_rfl) (res_tmp (by kernel_rfl) (res_tmp (by kernel_rfl) res_nil))) (by kernel_rfl)
      | false =>
        replace hF := ifB_f hF
        refine W.cond_false (by kernel_rfl) (by kernel_rfl) ?_
        refine W.skip (by kernel_rfl) ?_
        refine n8 ?_
        refine W.seqK (by kernel_rfl) (fun K19 n19 e19 r19 p19 => ?_)
        refine W.region (by kernel_rfl) ?_
        refine WL.val (d := (some 23)) (v := .int .i64 t1) (h' := h_15) (by kernel_rfl) (by kernel_rfl) (by kernel_rfl) ?_
        refine WL.val (d := (some 24)) (v := t0) (h' := h_15) (by kernel_rfl) (by kernel_rfl) (by kernel_rfl) ?_
        replace hF := callN_some hF; obtain ⟨r25, h_20, e21, hF⟩ := hF
        replace hF := obind_some hF; obtain ⟨t25, c22, hF⟩ := hF
        have c22 := avInt_some c22
        subst c22
        refine WL.call (hc.ok w0) (d := (some 25)) (by kernel_rfl) (by kernel_rfl) (by kernel_rfl) e21 ?_
        replace hF := lett_some hF; obtain ⟨t26, e23, hF⟩ := hF
        refine WL.val (d := (some 26)) (v := .int .i64 t26) (h' := h_20) (by kernel_rfl) (by kernel_rfl) (val_of (AV.int .i64) e23 (by kernel_rfl)) ?_
        refine WL.val (d := (some 1)) (v := .int .i64 t26) (h' := h_20) (by kernel_rfl) (by kernel_rfl) (by kernel_rfl) ?_
        refine WL.nil (by kernel_rfl) ?_
        refine Go.weaken (l' := [(0, t0), (1, .int .i64 t26), (2, .int .i64 t2)]) (Fr.sub_cons (by kernel_rfl) (Fr.sub_cons (by kernel_rfl) (Fr.sub_cons (by kernel_rfl) (Fr.sub_nil _)))) ?_
        refine n19 ?_
        refine W.seqK (by kernel_rfl) (fun K24 n24 e24 r24 p24 => ?_)
        refine W.region (by kernel_rfl) ?_
        refine WL.val (d := (some 27)) (v := .int .i64 t2) (h' := h_20) (by kernel_rfl) (by kernel_rfl) (by kernel_rfl) ?_
        refine WL.val (d := (some 28)) (v := t0) (h' := h_20) (by kernel_rfl) (by kernel_rfl) (by kernel_rfl) ?_
        replace hF := obind_some hF; obtain ⟨t29, e25, hF⟩ := hF
        refine WL.val (d := (some 29)) (v := t29) (h' := h_20) (by kernel_rfl) (by kernel_rfl) (Eq.trans (by kernel_rfl) (nil_chk (h := h_20) e25)) ?_
        replace hF := obind_some hF; obtain ⟨t30, e26, hF⟩ := hF
        refine WL.val (d := (some 30)) (v := t30) (h' := h_20) (by kernel_rfl) (by kernel_rfl) (Eq.trans (by kernel_rfl) (field_ptr (P := Try.prog) (h := h_20) (s := 47) (f := 1) (by kernel_rfl) e26)) ?_
        replace hF := obind_some hF; obtain ⟨v31, e27, hF⟩ := hF
        replace hF := obind_some hF; obtain ⟨t31, c28, hF⟩ := hF
        have c28 := avInt_some c28
        subst c28
        refine WL.val (d := (some 31)) (v := .int .i64 t31) (h' := h_20) (by kernel_rfl) (by kernel_rfl) (Eq.trans (by kernel_rfl) (load_cell (P := Try.prog) (h := h_20) (t := 3) (by kernel_rfl) e27)) ?_
        refine WL.val (d := (some 32)) (v := .int .i64 t26) (h' := h_20) (by kernel_rfl) (by kernel_rfl) (by kernel_rfl) ?_
        replace hF := lett_some hF; obtain ⟨t33, e29, hF⟩ := hF
        refine WL.val (d := (some 33)) (v := .int .i64 t33) (h' := h_20) (by kernel_rfl) (by kernel_rfl) (val_of (AV.int .i64) e29 (by kernel_rfl)) ?_
        replace hF := lett_some hF; obtain ⟨t34, e30, hF⟩ := hF
        refine WL.val (d := (some 34)) (v := .int .i64 t34) (h' := h_20) (by kernel_rfl) (by kernel_rfl) (val_of (AV.int .i64) e30 (by kernel_rfl)) ?_
        replace hF := outK_some hF; obtain ⟨v35, h_31, e32, hF⟩ := hF
        refine WL.val (d := (some 35)) (v := v35) (h' := h_31) (by kernel_rfl) (by kernel_rfl) (Eq.trans (by kernel_rfl) e32) ?_
        refine WL.val (d := (some 9)) (v := v35) (h' := h_31) (by kernel_rfl) (by kernel_rfl) (by kernel_rfl) ?_
        refine WL.nil (by kernel_rfl) ?_
        refine Go.weaken (l' := [(0, t0), (1, .int .i64 t26), (9, v35)]) (Fr.sub_cons (by kernel_rfl) (Fr.sub_cons (by kernel_rfl) (Fr.sub_cons (by kernel_rfl) (Fr.sub_nil _)))) ?_
        refine n24 ?_
        refine W.seqK (by kernel_rfl) (fun K33 n33 e33 r33 p33 => ?_)
        refine W.draw (by kernel_rfl) (hc.ok w0) (plan := [0, 1, 2, 3, 4, 5, 6, 7, 8, 9, 10, 11, 12, 13, 14, 15, 16]) (by kernel_rfl) (by kernel_rfl) (by kernel_rfl) ?_
        refine WD.val (d := (some 36)) (v := v35) (h' := h_31) (by kernel_rfl) (by kernel_rfl) (by kernel_rfl) (k := 0) (by kernel_rfl) (fun e => absurd e (by decide)) (by decide) ?_
        refine WD.val (d := (some 37)) (v := t0) (h' := h_31) (by kernel_rfl) (by kernel_rfl) (by kernel_rfl) (k := 0) (by kernel_rfl) (fun e => absurd e (by decide)) (by decide) ?_
        replace hF := obind_some hF; obtain ⟨t38, e34, hF⟩ := hF
        refine WD.val (d := (some 38)) (v := t38) (h' := h_31) (by kernel_rfl) (by kernel_rfl) (Eq.trans (by kernel_rfl) (nil_chk (h := h_31) e34)) (k := 0) (by kernel_rfl) (fun e => absurd e (by decide)) (by decide) ?_
        replace hF := obind_some hF; obtain ⟨t39, e35, hF⟩ := hF
        refine WD.val (d := (some 39)) (v := t39) (h' := h_31) (by kernel_rfl) (by kernel_rfl) (Eq.trans (by kernel_rfl) (field_ptr (P := Try.prog) (h := h_31) (s := 47) (f := 2) (by kernel_rfl) e35)) (k := 0) (by kernel_rfl) (fun e => absurd e (by decide)) (by decide) ?_
        refine WD.val (d := (some 40)) (v := .int .i64 t26) (h' := h_31) (by kernel_rfl) (by kernel_rfl) (by kernel_rfl) (k := 0) (by kernel_rfl) (fun e => absurd e (by decide)) (by decide) ?_
        refine WD.val (d := (some 41)) (v := t0) (h' := h_31) (by kernel_rfl) (by kernel_rfl) (by kernel_rfl) (k := 0) (by kernel_rfl) (fun e => absurd e (by decide)) (by decide) ?_
        replace hF := obind_some hF; obtain ⟨t42, e36, hF⟩ := hF
        refine WD.val (d := (some 42)) (v := t42) (h' := h_31) (by kernel_rfl) (by kernel_rfl) (Eq.trans (by kernel_rfl) (nil_chk (h := h_31) e36)) (k := 0) (by kernel_rfl) (fun e => absurd e (by decide)) (by decide) ?_
        replace hF := obind_some hF; obtain ⟨t43, e37, hF⟩ := hF
        refine WD.val (d := (some 43)) (v := t43) (h' := h_31) (by kernel_rfl) (by kernel_rfl) (Eq.trans (by kernel_rfl) (field_ptr (P := Try.prog) (h := h_31) (s := 47) (f := 0) (by kernel_rfl) e37)) (k := 0) (by kernel_rfl) (fun e => absurd e (by decide)) (by decide) ?_
        replace hF := obind_some hF; obtain ⟨v44, e38, hF⟩ := hF
        replace hF := obind_some hF; obtain ⟨t44, c39, hF⟩ := hF
        have c39 := avInt_some c39
        subst c39
        refine WD.val (d := (some 44)) (v := .int .i64 t44) (h' := h_31) (by kernel_rfl) (by kernel_rfl) (Eq.trans (by kernel_rfl) (load_cell (P := Try.prog) (h := h_31) (t := 3) (by kernel_rfl) e38)) (k := 1) (by kernel_rfl) (fun e => absurd e (by decide)) (by decide) ?_
        replace hF := obind_some hF; obtain ⟨t45, e40, hF⟩ := hF
        refine WD.val (d := (some 45)) (v := .int .i64 t45) (h' := h_31) (by kernel_rfl) (by kernel_rfl) (Eq.trans (by kernel_rfl) (rem_int (P := Try.prog) (h := h_31) (t := 3) (lit := false) e40)) (k := 0) (by kernel_rfl) (fun e => absurd e (by decide)) (by decide) ?_
        refine WD.val (d := (some 46)) (v := t0) (h' := h_31) (by kernel_rfl) (by kernel_rfl) (by kernel_rfl) (k := 0) (by kernel_rfl) (fun e => absurd e (by decide)) (by decide) ?_
        replace hF := obind_some hF; obtain ⟨t47, e41, hF⟩ := hF
        refine WD.val (d := (some 47)) (v := t47) (h' := h_31) (by kernel_rfl) (by kernel_rfl) (Eq.trans (by kernel_rfl) (nil_chk (h := h_31) e41)) (k := 0) (by kernel_rfl) (fun e => absurd e (by decide)) (by decide) ?_
        replace hF := obind_some hF; obtain ⟨t48, e42, hF⟩ := hF
        refine WD.val (d := (some 48)) (v := t48) (h' := h_31) (by kernel_rfl) (by kernel_rfl) (Eq.trans (by kernel_rfl) (field_ptr (P := Try.prog) (h := h_31) (s := 47) (f := 0) (by kernel_rfl) e42)) (k := 0) (by kernel_rfl) (fun e => absurd e (by decide)) (by decide) ?_
        replace hF := obind_some hF; obtain ⟨v49, e43, hF⟩ := hF
        replace hF := obind_some hF; obtain ⟨t49, c44, hF⟩ := hF
        have c44 := avInt_some c44
        subst c44
        refine WD.val (d := (some 49)) (v := .int .i64 t49) (h' := h_31) (by kernel_rfl) (by kernel_rfl) (Eq.trans (by kernel_rfl) (load_cell (P := Try.prog) (h := h_31) (t := 3) (by kernel_rfl) e43)) (k := 1) (by kernel_rfl) (fun e => absurd e (by decide)) (by decide) ?_
        replace hF := outK_some hF; obtain ⟨v50, h_45, e46, hF⟩ := hF
        refine WD.val (d := (some 50)) (v := v50) (h' := h_45) (by kernel_rfl) (by kernel_rfl) (Eq.trans (by kernel_rfl) e46) (k := 2) (by kernel_rfl) (fun _ => (by kernel_rfl)) (by decide) ?_
        replace hF := outK_some hF; obtain ⟨v51, h_47, e48, hF⟩ := hF
        replace hF := obind_some hF; obtain ⟨t51, c49, hF⟩ := hF
        have c49 := avInt_some c49
        subst c49
        refine WD.val (d := (some 51)) (v := .int .i64 t51) (h' := h_47) (by kernel_rfl) (by kernel_rfl) (Eq.trans (by kernel_rfl) e48) (k := 2) (by kernel_rfl) (fun _ => (by kernel_rfl)) (by decide) ?_
        refine WD.val (d := (some 10)) (v := .int .i64 t51) (h' := h_47) (by kernel_rfl) (by kernel_rfl) (by kernel_rfl) (k := 0) (by kernel_rfl) (fun e => absurd e (by decide)) (by decide) ?_
        refine WD.nil ?_
        refine Go.weaken (l' := [(0, t0), (1, .int .i64 t26), (9, v35), (10, .int .i64 t51)]) (Fr.sub_cons (by kernel_rfl) (Fr.sub_cons (by kernel_rfl) (Fr.sub_cons (by kernel_rfl) (Fr.sub_cons (by kernel_rfl) (Fr.sub_nil _))))) ?_
        refine n33 ?_
        refine W.seqK (by kernel_rfl) (fun K50 n50 e50 r50 p50 => ?_)
        refine W.draw (by kernel_rfl) (hc.ok w0) (plan := [0, 1, 2, 3, 4, 5, 6, 7]) (by kernel_rfl) (by kernel_rfl) (by kernel_rfl) ?_
        refine WD.val (d := (some 52)) (v := v35) (h' := h_47) (by kernel_rfl) (by kernel_rfl) (by kernel_rfl) (k := 0) (by kernel_rfl) (fun e => absurd e (by decide)) (by decide) ?_
        refine WD.val (d := (some 53)) (v := .int .i64 t51) (h' := h_47) (by kernel_rfl) (by kernel_rfl) (by kernel_rfl) (k := 0) (by kernel_rfl) (fun e => absurd e (by decide)) (by decide) ?_
        replace hF := outK_some hF; obtain ⟨v54, h_51, e52, hF⟩ := hF
        refine WD.val (d := (some 54)) (v := v54) (h' := h_51) (by kernel_rfl) (by kernel_rfl) (Eq.trans (by kernel_rfl) e52) (k := 0) (by kernel_rfl) (fun e => absurd e (by decide)) (by decide) ?_
        refine WD.val (d := (some 55)) (v := t0) (h' := h_51) (by kernel_rfl) (by kernel_rfl) (by kernel_rfl) (k := 0) (by kernel_rfl) (fun e => absurd e (by decide)) (by decide) ?_
        replace hF := obind_some hF; obtain ⟨t56, e53, hF⟩ := hF
        refine WD.val (d := (some 56)) (v := t56) (h' := h_51) (by kernel_rfl) (by kernel_rfl) (Eq.trans (by kernel_rfl) (nil_chk (h := h_51) e53)) (k := 0) (by kernel_rfl) (fun e => absurd e (by decide)) (by decide) ?_
        replace hF := obind_some hF; obtain ⟨t57, e54, hF⟩ := hF
        refine WD.val (d := (some 57)) (v := t57) (h' := h_51) (by kernel_rfl) (by kernel_rfl) (Eq.trans (by kernel_rfl) (field_ptr (P := Try.prog) (h := h_51) (s := 47) (f := 2) (by kernel_rfl) e54)) (k := 0) (by kernel_rfl) (fun e => absurd e (by decide)) (by decide) ?_
        replace hF := outK_some hF; obtain ⟨v58, h_55, e56, hF⟩ := hF
        refine WD.val (d := (some 58)) (v := v58) (h' := h_55) (by kernel_rfl) (by kernel_rfl) (Eq.trans (by kernel_rfl) e56) (k := 2) (by kernel_rfl) (fun _ => (by kernel_rfl)) (by decide) ?_
        replace hF := outK_some hF; obtain ⟨v59, h_57, e58, hF⟩ := hF
        replace hF := obind_some hF; obtain ⟨t59, c59, hF⟩ := hF
        have c59 := avInt_some c59
        subst c59
        refine WD.val (d := (some 59)) (v := .int .i64 t59) (h' := h_57) (by kernel_rfl) (by kernel_rfl) (Eq.trans (by kernel_rfl) e58) (k := 2) (by kernel_rfl) (fun _ => (by kernel_rfl)) (by decide) ?_
        refine WD.nil ?_
        refine Go.weaken (l' := [(1, .int .i64 t26), (9, v35)]) (Fr.sub_cons (by kernel_rfl) (Fr.sub_cons (by kernel_rfl) (Fr.sub_nil _))) ?_
        refine n50 ?_
        refine W.seqK (by kernel_rfl) (fun K60 n60 e60 r60 p60 => ?_)
        refine W.region (by kernel_rfl) ?_
        refine WL.val (d := (some 60)) (v := v35) (h' := h_57) (by kernel_rfl) (by kernel_rfl) (by kernel_rfl) ?_
        replace hF := outK_some hF; obtain ⟨v61, h_61, e62, hF⟩ := hF
        replace hF := obind_some hF; obtain ⟨t61, c63, hF⟩ := hF
        have c63 := avStr_some c63
        subst c63
        refine WL.val (d := (some 61)) (v := strA t61) (h' := h_61) (by kernel_rfl) (by kernel_rfl) (Eq.trans (by kernel_rfl) e62) ?_
        refine WL.val (d := (some 62)) (v := .int .i64 t26) (h' := h_61) (by kernel_rfl) (by kernel_rfl) (by kernel_rfl) ?_
        refine WL.val (d := (some 6)) (v := strA t61) (h' := h_61) (by kernel_rfl) (by kernel_rfl) (by kernel_rfl) ?_
        refine WL.val (d := (some 7)) (v := .int .i64 t26) (h' := h_61) (by kernel_rfl) (by kernel_rfl) (by kernel_rfl) ?_
        refine WL.val (d := (some 8)) (v := .int .i64 0) (h' := h_61) (by kernel_rfl) (by kernel_rfl) (by kernel_rfl) ?_
        refine WL.nil (by kernel_rfl) ?_
        refine Go.weaken (l' := [(6, strA t61), (7, .int .i64 t26), (8, .int .i64 0)]) (Fr.sub_cons (by kernel_rfl) (Fr.sub_cons (by kernel_rfl) (Fr.sub_cons (by kernel_rfl) (Fr.sub_nil _)))) ?_
        refine n60 ?_
        refine W.ret (by kernel_rfl) ?_
        obtain ⟨hF, hF2⟩ := ret_inj hF; subst hF; subst hF2
        exact leave_of (rs := [.tmp 6, .tmp 7, .tmp 8]) (vs := [strA t61, .int .i64 t26, .int .i64 0]) (by kernel_rfl) (res_tmp (by kernel_rfl) (res_tmp (by kernel_rfl) (res_tmp (by kernel_rfl) res_nil))) (by kernel_rfl)
    cases t18 with
    | true =>
      replace hF := ifB_t hF
      refine WL.not (d := (some 20)) (by kernel_rfl) (by kernel_rfl) ?_
      refine WL.not (d := (some 21)) (by kernel_rfl) (by kernel_rfl) ?_
      refine WL.val (d := (some 22)) (v := .bool true) (h' := h_4) (by kernel_rfl) (by kernel_rfl) (by kernel_rfl) ?_
      exact WL.weaken (Fr.sub_cons (by kernel_rfl) (Fr.sub_cons (by kernel_rfl) (Fr.sub_cons (by kernel_rfl) (Fr.sub_cons (by kernel_rfl) (Fr.sub_nil _))))) (J17 _ _ hF)
    | false =>
      replace hF := ifB_f hF
      refine WL.val (d := (some 20)) (v := .int .i64 t2) (h' := h_4) (by kernel_rfl) (by kernel_rfl) (by kernel_rfl) ?_
      replace hF := lett_some hF; obtain ⟨t21, e64, hF⟩ := hF
      refine WL.val (d := (some 21)) (v := .bool t21) (h' := h_4) (by kernel_rfl) (by kernel_rfl) (val_of AV.bool e64 (by kernel_rfl)) ?_
      refine WL.val (d := (some 22)) (v := .bool t21) (h' := h_4) (by kernel_rfl) (by kernel_rfl) (by kernel_rfl) ?_
      exact WL.weaken (Fr.sub_cons (by kernel_rfl) (Fr.sub_cons (by kernel_rfl) (Fr.sub_cons (by kernel_rfl) (Fr.sub_cons (by kernel_rfl) (Fr.sub_nil _))))) (J17 _ _ hF)
noncomputable def ring_Ring_From_fn (call : CallF) (n : Nat) : FnT := fun args h => match args with
  | [x0, x1, x2] => obind (avInt .i64 x1) fun t1 => obind (avInt .i64 x2) fun t2 => ring_Ring_From call n x0 t1 t2 h
  | _ => none
set_option maxRecDepth 100000 in
theorem ring_Ring_From_fn_eq (call : CallF) (n : Nat) (t0 : AV) (t1 : Int) (t2 : Int) (h : AHeap) : ring_Ring_From_fn call n [t0, .int .i64 t1, .int .i64 t2] h = ring_Ring_From call n t0 t1 t2 h :=
  (Eq.trans (obind_eq (fun t1 => obind (avInt .i64 (.int .i64 t2)) fun t2 => ring_Ring_From call n t0 t1 t2 h) (avInt_int .i64 t1)) (Eq.trans (obind_eq (fun t2 => ring_Ring_From call n t0 t1 t2 h) (avInt_int .i64 t2)) rfl))
theorem ring_Ring_From_holds {call : CallF} (hc : SaysAll Try.prog call) (n : Nat) : Holds Try.prog 13 (ring_Ring_From_fn call n) := by
  intro args h r h2 e
  unfold ring_Ring_From_fn at e
  split at e
  · replace e := obind_some e; obtain ⟨t1, c1, e⟩ := e; have c1 := avInt_some c1; subst c1
    replace e := obind_some e; obtain ⟨t2, c2, e⟩ := e; have c2 := avInt_some c2; subst c2
    exact ring_Ring_From_ok hc e
  · cases e

noncomputable def ring_Ring_End (_ : CallF) (_ : Nat) (t0 : AV) (h : AHeap) : R :=
  outK (opBin Try.prog h .eql 26 true (some t0) (some AV.nilp)) fun v4 h_4 =>
  obind (avBool v4) fun t4 =>
  ifB t4
  (
    some (.ret (.int .i64 0), h_4))
  (
    obind (nilC t0) fun t6 =>
    obind (fldP 1 t6) fun t7 =>
    obind (ldCell h_4 t7) fun v8 =>
    obind (avInt .i64 v8) fun t8 =>
    some (.ret (.int .i64 t8), h_4))
set_option maxHeartbeats 4000000 in
set_option maxRecDepth 20000 in
theorem ring_Ring_End_ok {call : CallF} (_ : SaysAll Try.prog call) {n : Nat} {t0 : AV} {h : AHeap} {rR : ARes} {hR : AHeap} (hF : ring_Ring_End call n t0 h = some (rR, hR)) : Says Try.prog 15 [t0] h rR hR := by
  unfold ring_Ring_End at hF
  refine says_of (fn := Try.f15) Try.func15 (c := codeOf Try.f15) (by kernel_rfl) (by kernel_rfl) (fun w0 m0 => ?_)
  refine W.weaken (l' := [(0, t0)]) (Fr.sub_cons (by kernel_rfl) (Fr.sub_nil _)) ?_
  refine W.seqK (by kernel_rfl) (fun K1 n1 e1 r1 p1 => ?_)
  refine W.region (by kernel_rfl) ?_
  refine WL.val (d := (some 2)) (v := .int .i64 0) (h' := h) (by kernel_rfl) (by kernel_rfl) (by kernel_rfl) ?_
  refine WL.nil (by kernel_rfl) ?_
  refine Go.weaken (l' := [(0, t0)]) (Fr.sub_cons (by kernel_rfl) (Fr.sub_nil _)) ?_
  refine n1 ?_
  refine W.seqK (by kernel_rfl) (fun K2 n2 e2 r2 p2 => ?_)
  refine W.seqK (by kernel_rfl) (fun K3 n3 e3 r3 p3 => ?_)
  refine W.region (by kernel_rfl) ?_
  refine WL.val (d := (some 3)) (v := t0) (h' := h) (by kernel_rfl) (by kernel_rfl) (by kernel_rfl) ?_
  replace hF := outK_some hF; obtain ⟨v4, h_4, e5, hF⟩ := hF
  replace hF := obind_some hF; obtain ⟨t4, c6, hF⟩ := hF
  have c6 := avBool_some c6
  subst c6
  refine WL.val (d := (some 4)) (v := .bool t4) (h' := h_4) (by kernel_rfl) (by kernel_rfl) (Eq.trans (by kernel_rfl) e5) ?_
  refine WL.nil (by kernel_rfl) ?_
  refine Go.weaken (l' := [(0, t0), (4, .bool t4)]) (Fr.sub_cons (by kernel_rfl) (Fr.sub_cons (by kernel_rfl) (Fr.sub_nil _))) ?_
  refine n3 ?_
  cases t4 with
  | true =>
    replace hF := ifB_t hF
    refine W.cond_true (by kernel_rfl) (by kernel_rfl) ?_
    refine W.seqK (by kernel_rfl) (fun K7 n7 e7 r7 p7 => ?_)
    refine W.region (by kernel_rfl) ?_
    refine WL.val (d := (some 2)) (v := .int .i64 0) (h' := h_4) (by kernel_rfl) (by kernel_rfl) (by kernel_rfl) ?_
    refine WL.nil (by kernel_rfl) ?_
    refine Go.weaken (l' := [(2, .int .i64 0)]) (Fr.sub_cons (by kernel_rfl) (Fr.sub_nil _)) ?_
    refine n7 ?_
    refine W.ret (by kernel_rfl) ?_
    refine r2 ?_
    obtain ⟨hF, hF2⟩ := ret_inj hF; subst hF; subst hF2
    exact leave_of (rs := [.tmp 2]) (vs := [.int .i64 0]) (by kernel_rfl) (res_tmp (by kernel_rfl) res_nil) (by kernel_rfl)
  | false =>
    replace hF := ifB_f hF
    refine W.cond_false (by kernel_rfl) (by kernel_rfl) ?_
    refine W.skip (by kernel_rfl) ?_
    refine n2 ?_
    refine W.seqK (by kernel_rfl) (fun K8 n8 e8 r8 p8 => ?_)
    refine W.region (by kernel_rfl) ?_
    refine WL.val (d := (some 5)) (v := t0) (h' := h_4) (by kernel_rfl) (by kernel_rfl) (by kernel_rfl) ?_
    replace hF := obind_some hF; obtain ⟨t6, e9, hF⟩ := hF
    refine WL.val (d := (some 6)) (v := t6) (h' := h_4) (by kernel_rfl) (by kernel_rfl) (Eq.trans (by kernel_rfl) (nil_chk (h := h_4) e9)) ?_
    replace hF := obind_some hF; obtain ⟨t7, e10, hF⟩ := hF
    refine WL.val (d := (some 7)) (v := t7) (h' := h_4) (by kernel_rfl) (by kernel_rfl) (Eq.trans (by kernel_rfl) (field_ptr (P := Try.prog) (h := h_4) (s := 47) (f := 1) (by kernel_rfl) e10)) ?_
    replace hF := obind_some hF; obtain ⟨v8, e11, hF⟩ := hF
    replace hF := obind_some hF; obtain ⟨t8, c12, hF⟩ := hF
    have c12 := avInt_some c12
    subst c12
    refine WL.val (d := (some 8)) (v := .int .i64 t8) (h' := h_4) (by kernel_rfl) (by kernel_rfl) (Eq.trans (by kernel_rfl) (load_cell (P := Try.prog) (h := h_4) (t := 3) (by kernel_rfl) e11)) ?_
    refine WL.val (d := (some 2)) (v := .int .i64 t8) (h' := h_4) (by kernel_rfl) (by kernel_rfl) (by kernel_rfl) ?_
    refine WL.nil (by kernel_rfl) ?_
    refine Go.weaken (l' := [(2, .int .i64 t8)]) (Fr.sub_cons (by kernel_rfl) (Fr.sub_nil _)) ?_
    refine n8 ?_
    refine W.ret (by kernel_rfl) ?_
    obtain ⟨hF, hF2⟩ := ret_inj hF; subst hF; subst hF2
    exact leave_of (rs := [.tmp 2]) (vs := [.int .i64 t8]) (by kernel_rfl) (res_tmp (by kernel_rfl) res_nil) (by kernel_rfl)
noncomputable def ring_Ring_End_fn (call : CallF) (n : Nat) : FnT := fun args h => match args with
  | [x0] => ring_Ring_End call n x0 h
  | _ => none
set_option maxRecDepth 100000 in
theorem ring_Ring_End_fn_eq (call : CallF) (n : Nat) (t0 : AV) (h : AHeap) : ring_Ring_End_fn call n [t0] h = ring_Ring_End call n t0 h :=
  rfl
theorem ring_Ring_End_holds {call : CallF} (hc : SaysAll Try.prog call) (n : Nat) : Holds Try.prog 15 (ring_Ring_End_fn call n) := by
  intro args h r h2 e
  unfold ring_Ring_End_fn at e
  split at e
  · exact ring_Ring_End_ok hc e
  · cases e

noncomputable def ring_Ring_First (_ : CallF) (_ : Nat) (t0 : AV) (h : AHeap) : R :=
  outK (opBin Try.prog h .eql 26 true (some t0) (some AV.nilp)) fun v4 h_4 =>
  obind (avBool v4) fun t4 =>
  ifB t4
  (
    some (.ret (.int .i64 0), h_4))
  (
    obind (nilC t0) fun t6 =>
    obind (fldP 1 t6) fun t7 =>
    obind (ldCell h_4 t7) fun v8 =>
    obind (avInt .i64 v8) fun t8 =>
    obind (nilC t0) fun t10 =>
    obind (fldP 0 t10) fun t11 =>
    obind (ldCell h_4 t11) fun v12 =>
    obind (avInt .i64 v12) fun t12 =>
    lett (IntKind.i64.wrap (t8 - t12)) fun (t13 : Int) =>
    lett (if 0 > t13 then 0 else t13) fun (t14 : Int) =>
    some (.ret (.int .i64 t14), h_4))
set_option maxHeartbeats 4000000 in
set_option maxRecDepth 20000 in
theorem ring_Ring_First_ok {call : CallF} (hc : SaysAll Try.prog call) {n : Nat} {t0 : AV} {h : AHeap} {rR : ARes} {hR : AHeap} (hF : ring_Ring_First call n t0 h = some (rR, hR)) : Says Try.prog 16 [t0] h rR hR := by
  unfold ring_Ring_First at hF
  refine says_of (fn := Try.f16) Try.func16 (c := codeOf Try.f16) (by kernel_rfl) (by kernel_rfl) (fun w0 m0 => ?_)
  refine W.weaken (l' := [(0, t0)]) (Fr.sub_cons (by kernel_rfl) (Fr.sub_nil _)) ?_
  refine W.seqK (by kernel_rfl) (fun K1 n1 e1 r1 p1 => ?_)
  refine W.region (by kernel_rfl) ?_
  refine WL.val (d := (some 2)) (v := .int .i64 0) (h' := h) (by kernel_rfl) (by kernel_rfl) (by kernel_rfl) ?_
  refine WL.nil (by kernel_rfl) ?_
  refine Go.weaken (l' := [(0, t0)]) (Fr.sub_cons (by kernel_rfl) (Fr.sub_nil _)) ?_
  refine n1 ?_
  refine W.seqK (by kernel_rfl) (fun K2 n2 e2 r2 p2 => ?_)
  refine W.seqK (by kernel_rfl) (fun K3 n3 e3 r3 p3 => ?_)
  refine W.region (by kernel_rfl) ?_
  refine WL.val (d := (some 3)) (v := t0) (h' := h) (by kernel_rfl) (by kernel_rfl) (by kernel_rfl) ?_
  replace hF := outK_some hF; obtain ⟨v4, h_4, e5, hF⟩ := hF
  replace hF := obind_some hF; obtain ⟨t4, c6, hF⟩ := hF
  have c6 := avBool_some c6
  subst c6
  refine WL.val (d := (some 4)) (v := .bool t4) (h' := h_4) (by kernel_rfl) (by kernel_rfl) (Eq.trans (by kernel_rfl) e5) ?_
  refine WL.nil (by kernel_rfl) ?_
  refine Go.weaken (l' := [(0, t0), (4, .bool t4)]) (Fr.sub_cons (by kernel_rfl) (Fr.sub_cons (by kernel_rfl) (Fr.sub_nil _))) ?_
  refine n3 ?_
  cases t4 with
  | true =>
    replace hF := ifB_t hF
    refine W.cond_true (by kernel_rfl) (by kernel_rfl) ?_
    refine W.seqK (by kernel_rfl) (fun K7 n7 e7 r7 p7 => ?_)
    refine W.region (by kernel_rfl) ?_
    refine WL.val (d := (some 2)) (v := .int .i64 0) (h' := h_4) (by kernel_rfl) (by kernel_rfl) (by kernel_rfl) ?_
    refine WL.nil (by kernel_rfl) ?_
    refine Go.weaken (l' := [(2, .int .i64 0)]) (Fr.sub_cons (by kernel_rfl) (Fr.sub_nil _)) ?_
    refine n7 ?_
    refine W.ret (by kernel_rfl) ?_
    refine r2 ?_
    obtain ⟨hF, hF2⟩ := ret_inj hF; subst hF; subst hF2
    exact leave_of (rs := [.tmp 2]) (vs := [.int .i64 0]) (by kernel_rfl) (res_tmp (by kernel_rfl) res_nil) (by kernel_rfl)
  | false =>
    replace hF := ifB_f hF
    refine W.cond_false (by kernel_rfl) (by kernel_rfl) ?_
    refine W.skip (by kernel_rfl) ?_
    refine n2 ?_
    refine W.seqK (by kernel_rfl) (fun K8 n8 e8 r8 p8 => ?_)
    refine W.draw (by kernel_rfl) (hc.ok w0) (plan := [0, 1, 2, 3, 4, 5, 6, 7, 8, 9, 10]) (by kernel_rfl) (by kernel_rfl) (by kernel_rfl) ?_
    refine WD.val (d := (some 5)) (v := t0) (h' := h_4) (by kernel_rfl) (by kernel_rfl) (by kernel_rfl) (k := 0) (by kernel_rfl) (fun e => absurd e (by decide)) (by decide) ?_
    replace hF := obind_some hF; obtain ⟨t6, e9, hF⟩ := hF
    refine WD.val (d := (some 6)) (v := t6) (h' := h_4) (by kernel_rfl) (by kernel_rfl) (Eq.trans (by kernel_rfl) (nil_chk (h := h_4) e9)) (k := 0) (by kernel_rfl) (fun e => absurd e (by decide)) (by decide) ?_
    replace hF := obind_some hF; obtain ⟨t7, e10, hF⟩ := hF
    refine WD.val (d := (some 7)) (v := t7) (h' := h_4) (by kernel_rfl) (by kernel_rfl) (Eq.trans (by kernel_rfl) (field_ptr (P := Try.prog) (h := h_4) (s := 47) (f := 1) (by kernel_rfl) e10)) (k := 0) (by kernel_rfl) (fun e => absurd e (by decide)) (by decide) ?_
    replace hF := obind_some hF; obtain ⟨v8, e11, hF⟩ := hF
    replace hF := obind_some hF; obtain ⟨t8, c12, hF⟩ := hF
    have c12 := avInt_some c12
    subst c12
    refine WD.val (d := (some 8)) (v := .int .i64 t8) (h' := h_4) (by kernel_rfl) (by kernel_rfl) (Eq.trans (by kernel_rfl) (load_cell (P := Try.prog) (h := h_4) (t := 3) (by kernel_rfl) e11)) (k := 1) (by kernel_rfl) (fun e => absurd e (by decide)) (by decide) ?_
    refine WD.val (d := (some 9)) (v := t0) (h' := h_4) (by kernel_rfl) (by kernel_rfl) (by kernel_rfl) (k := 0) (by kernel_rfl) (fun e => absurd e (by decide)) (by decide) ?_
    replace hF := obind_some hF; obtain ⟨t10, e13, hF⟩ := hF
    refine WD.val (d := (some 10)) (v := t10) (h' := h_4) (by kernel_rfl) (by kernel_rfl) (Eq.trans (by kernel_rfl) (nil_chk (h := h_4) e13)) (k := 0) (by kernel_rfl) (fun e => absurd e (by decide)) (by decide) ?_
    replace hF := obind_some hF; obtain ⟨t11, e14, hF⟩ := hF
    refine WD.val (d := (some 11)) (v := t11) (h' := h_4) (by kernel_rfl) (by kernel_rfl) (Eq.trans (by kernel_rfl) (field_ptr (P := Try.prog) (h := h_4) (s := 47) (f := 0) (by kernel_rfl) e14)) (k := 0) (by kernel_rfl) (fun e => absurd e (by decide)) (by decide) ?_
    replace hF := obind_some hF; obtain ⟨v12, e15, hF⟩ := hF
    replace hF := obind_some hF; obtain ⟨t12, c16, hF⟩ := hF
    have c16 := avInt_some c16
    subst c16
    refine WD.val (d := (some 12)) (v := .int .i64 t12) (h' := h_4) (by kernel_rfl) (by kernel_rfl) (Eq.trans (by kernel_rfl) (load_cell (P := Try.prog) (h := h_4) (t := 3) (by kernel_rfl) e15)) (k := 1) (by kernel_rfl) (fun e => absurd e (by decide)) (by decide) ?_
    replace hF := lett_some hF; obtain ⟨t13, e17, hF⟩ := hF
    refine WD.val (d := (some 13)) (v := .int .i64 t13) (h' := h_4) (by kernel_rfl) (by kernel_rfl) (val_of (AV.int .i64) e17 (by kernel_rfl)) (k := 0) (by kernel_rfl) (fun e => absurd e (by decide)) (by decide) ?_
    replace hF := lett_some hF; obtain ⟨t14, e18, hF⟩ := hF
    refine WD.val (d := (some 14)) (v := .int .i64 t14) (h' := h_4) (by kernel_rfl) (by kernel_rfl) (val_of (AV.int .i64) e18 (by kernel_rfl)) (k := 0) (by kernel_rfl) (fun e => absurd e (by decide)) (by decide) ?_
    refine WD.val (d := (some 2)) (v := .int .i64 t14) (h' := h_4) (by kernel_rfl) (by kernel_rfl) (by kernel_rfl) (k := 0) (by kernel_rfl) (fun e => absurd e (by decide)) (by decide) ?_
    refine WD.nil ?_
    refine Go.weaken (l' := [(2, .int .i64 t14)]) (Fr.sub_cons (by kernel_rfl) (Fr.sub_nil _)) ?_
    refine n8 ?_
    refine W.ret (by kernel_rfl) ?_
    obtain ⟨hF, hF2⟩ := ret_inj hF; subst hF; subst hF2
    exact leave_of (rs := [.tmp 2]) (vs := [.int .i64 t14]) (by kernel_rfl) (res_tmp (by kernel_rfl) res_nil) (by kernel_rfl)
noncomputable def ring_Ring_First_fn (call : CallF) (n : Nat) : FnT := fun args h => match args with
  | [x0] => ring_Ring_First call n x0 h
  | _ => none
set_option maxRecDepth 100000 in
theorem ring_Ring_First_fn_eq (call : CallF) (n : Nat) (t0 : AV) (h : AHeap) : ring_Ring_First_fn call n [t0] h = ring_Ring_First call n t0 h :=
  rfl
theorem ring_Ring_First_holds {call : CallF} (hc : SaysAll Try.prog call) (n : Nat) : Holds Try.prog 16 (ring_Ring_First_fn call n) := by
  intro args h r h2 e
  unfold ring_Ring_First_fn at e
  split at e
  · exact ring_Ring_First_ok hc e
  · cases e

noncomputable def ring_Ring_Put (_ : CallF) (_ : Nat) (t0 : AV) (t1 : Bytes) (h : AHeap) : R :=
  outK (opBin Try.prog h .eql 26 true (some t0) (some AV.nilp)) fun v7 h_3 =>
  obind (avBool v7) fun t7 =>
  ifB t7
  (
    some (.ret (.tup []), h_3))
  (
    obind (nilC t0) fun t11 =>
    obind (fldP 0 t11) fun t12 =>
    obind (ldCell h_3 t12) fun v13 =>
    obind (avInt .i64 v13) fun t13 =>
    lett (IntKind.i64.wrap ((lenS t1) - t13)) fun (t14 : Int) =>
    lett (if 0 > t14 then 0 else t14) fun (t15 : Int) =>
    obind (nilC t0) fun t17 =>
    obind (fldP 1 t17) fun t18 =>
    obind (ldCell h_3 t18) fun v19 =>
    obind (avInt .i64 v19) fun t19 =>
    lett (IntKind.i64.wrap (t19 + t15)) fun (t21 : Int) =>
    obind (nilC t0) fun t22 =>
    obind (fldP 1 t22) fun t23 =>
    obind (stRow h_3 1 [.int .i64 t21] t23) fun h_21 =>
    obind (sliceS t1 t15 (lenS t1)) fun t26 =>
    obind (nilC t0) fun t28 =>
    obind (fldP 2 t28) fun t29 =>
    obind (nilC t0) fun t31 =>
    obind (fldP 1 t31) fun t32 =>
    obind (ldCell h_21 t32) fun v33 =>
    obind (avInt .i64 v33) fun t33 =>
    obind (nilC t0) fun t35 =>
    obind (fldP 0 t35) fun t36 =>
    obind (ldCell h_21 t36) fun v37 =>
    obind (avInt .i64 v37) fun t37 =>
    obind (remI .i64 t33 t37) fun t38 =>
    obind (nilC t0) fun t40 =>
    obind (fldP 0 t40) fun t41 =>
    obind (ldCell h_21 t41) fun v42 =>
    obind (avInt .i64 v42) fun t42 =>
    outK (sliceA Try.prog h_21 45 t29 (some (.int .i64 t38)) (some (.int .i64 t42))) fun v43 h_41 =>
    outK (opCopy Try.prog h_41 44 v43 (strA t26)) fun v45 h_43 =>
    obind (avInt .i64 v45) fun t45 =>
    obind (nilC t0) fun t47 =>
    obind (fldP 2 t47) fun t48 =>
    obind (sliceS t26 t45 (lenS t26)) fun t52 =>
    outK (sliceA Try.prog h_43 45 t48 none none) fun v49 h_50 =>
    outK (opCopy Try.prog h_50 44 v49 (strA t52)) fun v53 h_52 =>
    obind (avInt .i64 v53) fun _ =>
    obind (nilC t0) fun t55 =>
    obind (fldP 1 t55) fun t56 =>
    obind (ldCell h_52 t56) fun v57 =>
    obind (avInt .i64 v57) fun t57 =>
    lett (IntKind.i64.wrap (t57 + (lenS t26))) fun (t60 : Int) =>
    obind (nilC t0) fun t61 =>
    obind (fldP 1 t61) fun t62 =>
    obind (stRow h_52 1 [.int .i64 t60] t62) fun h_62 =>
    some (.ret (.tup []), h_62))
set_option maxHeartbeats 4000000 in
set_option maxRecDepth 20000 in
theorem ring_Ring_Put_ok {call : CallF} (hc : SaysAll Try.prog call) {n : Nat} {t0 : AV} {t1 : Bytes} {h : AHeap} {rR : ARes} {hR : AHeap} (hF : ring_Ring_Put call n t0 t1 h = some (rR, hR)) : Says Try.prog 18 [t0, strA t1] h rR hR := by
  unfold ring_Ring_Put at hF
  refine says_of (fn := Try.f18) Try.func18 (c := codeOf Try.f18) (by kernel_rfl) (by kernel_rfl) (fun w0 m0 => ?_)
  refine W.weaken (l' := [(0, t0), (1, strA t1)]) (Fr.sub_cons (by kernel_rfl) (Fr.sub_cons (by kernel_rfl) (Fr.sub_nil _))) ?_
  refine W.seqK (by kernel_rfl) (fun K1 n1 e1 r1 p1 => ?_)
  refine W.seqK (by kernel_rfl) (fun K2 n2 e2 r2 p2 => ?_)
  refine W.region (by kernel_rfl) ?_
  refine WL.val (d := (some 6)) (v := t0) (h' := h) (by kernel_rfl) (by kernel_rfl) (by kernel_rfl) ?_
  replace hF := outK_some hF; obtain ⟨v7, h_3, e4, hF⟩ := hF
  replace hF := obind_some hF; obtain ⟨t7, c5, hF⟩ := hF
  have c5 := avBool_some c5
  subst c5
  refine WL.val (d := (some 7)) (v := .bool t7) (h' := h_3) (by kernel_rfl) (by kernel_rfl) (Eq.trans (by kernel_rfl) e4) ?_
  refine WL.nil (by kernel_rfl) ?_
  refine Go.weaken (l' := [(0, t0), (1, strA t1), (7, .bool t7)]) (Fr.sub_cons (by kernel_rfl) (Fr.sub_cons (by kernel_rfl) (Fr.sub_cons (by kernel_rfl) (Fr.sub_nil _)))) ?_
  refine n2 ?_
  cases t7 with
  | true =>
    replace hF := ifB_t hF
    refine W.cond_true (by kernel_rfl) (by kernel_rfl) ?_
    refine W.ret (by kernel_rfl) ?_
    refine r1 ?_
    obtain ⟨hF, hF2⟩ := ret_inj hF; subst hF; subst hF2
    exact leave_of (rs := []) (vs := []) (by kernel_rfl) res_nil (by kernel_rfl)
  | false =>
    replace hF := ifB_f hF
    refine W.cond_false (by kernel_rfl) (by kernel_rfl) ?_
    refine W.skip (by kernel_rfl) ?_
    refine n1 ?_
    refine W.seqK (by kernel_rfl) (fun K6 n6 e6 r6 p6 => ?_)
    refine W.region (by kernel_rfl) ?_
    refine WL.val (d := (some 8)) (v := strA t1) (h' := h_3) (by kernel_rfl) (by kernel_rfl) (by kernel_rfl) ?_
    refine WL.val (d := (some 9)) (v := .int .i64 (lenS t1)) (h' := h_3) (by kernel_rfl) (by kernel_rfl) (by kernel_rfl) ?_
    refine WL.val (d := (some 10)) (v := t0) (h' := h_3) (by kernel_rfl) (by kernel_rfl) (by kernel_rfl) ?_
    replace hF := obind_some hF; obtain ⟨t11, e7, hF⟩ := hF
    refine WL.val (d := (some 11)) (v := t11) (h' := h_3) (by kernel_rfl) (by kernel_rfl) (Eq.trans (by kernel_rfl) (nil_chk (h := h_3) e7)) ?_
    replace hF := obind_some hF; obtain ⟨t12, e8, hF⟩ := hF
    refine WL.val (d := (some 12)) (v := t12) (h' := h_3) (by kernel_rfl) (by kernel_rfl) (Eq.trans (by kernel_rfl) (field_ptr (P := Try.prog) (h := h_3) (s := 47) (f := 0) (by kernel_rfl) e8)) ?_
    replace hF := obind_some hF; obtain ⟨v13, e9, hF⟩ := hF
    replace hF := obind_some hF; obtain ⟨t13, c10, hF⟩ := hF
    have c10 := avInt_some c10
    subst c10
    refine WL.val (d := (some 13)) (v := .int .i64 t13) (h' := h_3) (by kernel_rfl) (by kernel_rfl) (Eq.trans (by kernel_rfl) (load_cell (P := Try.prog) (h := h_3) (t := 3) (by kernel_rfl) e9)) ?_
    replace hF := lett_some hF; obtain ⟨t14, e11, hF⟩ := hF
    refine WL.val (d := (some 14)) (v := .int .i64 t14) (h' := h_3) (by kernel_rfl) (by kernel_rfl) (val_of (AV.int .i64) e11 (by kernel_rfl)) ?_
    replace hF := lett_some hF; obtain ⟨t15, e12, hF⟩ := hF
    refine WL.val (d := (some 15)) (v := .int .i64 t15) (h' := h_3) (by kernel_rfl) (by kernel_rfl) (val_of (AV.int .i64) e12 (by kernel_rfl)) ?_
    refine WL.val (d := (some 4)) (v := .int .i64 t15) (h' := h_3) (by kernel_rfl) (by kernel_rfl) (by kernel_rfl) ?_
    refine WL.nil (by kernel_rfl) ?_
    refine Go.weaken (l' := [(0, t0), (1, strA t1), (4, .int .i64 t15)]) (Fr.sub_cons (by kernel_rfl) (Fr.sub_cons (by kernel_rfl) (Fr.sub_cons (by kernel_rfl) (Fr.sub_nil _)))) ?_
    refine n6 ?_
    refine W.seqK (by kernel_rfl) (fun K13 n13 e13 r13 p13 => ?_)
    refine W.region (by kernel_rfl) ?_
    refine WL.val (d := (some 16)) (v := t0) (h' := h_3) (by kernel_rfl) (by kernel_rfl) (by kernel_rfl) ?_
    replace hF := obind_some hF; obtain ⟨t17, e14, hF⟩ := hF
    refine WL.val (d := (some 17)) (v := t17) (h' := h_3) (by kernel_rfl) (by kernel_rfl) (Eq.trans (by kernel_rfl) (nil_chk (h := h_3) e14)) ?_
    replace hF := obind_some hF; obtain ⟨t18, e15, hF⟩ := hF
    refine WL.val (d := (some 18)) (v := t18) (h' := h_3) (by kernel_rfl) (by kernel_rfl) (Eq.trans (by kernel_rfl) (field_ptr (P := Try.prog) (h := h_3) (s := 47) (f := 1) (by kernel_rfl) e15)) ?_
    replace hF := obind_some hF; obtain ⟨v19, e16, hF⟩ := hF
    replace hF := obind_some hF; obtain ⟨t19, c17, hF⟩ := hF
    have c17 := avInt_some c17
    subst c17
    refine WL.val (d := (some 19)) (v := .int .i64 t19) (h' := h_3) (by kernel_rfl) (by kernel_rfl) (Eq.trans (by kernel_rfl) (load_cell (P := Try.prog) (h := h_3) (t := 3) (by kernel_rfl) e16)) ?_
    refine WL.val (d := (some 20)) (v := .int .i64 t15) (h' := h_3) (by kernel_rfl) (by kernel_rfl) (by kernel_rfl) ?_
    replace hF := lett_some hF; obtain ⟨t21, e18, hF⟩ := hF
    refine WL.val (d := (some 21)) (v := .int .i64 t21) (h' := h_3) (by kernel_rfl) (by kernel_rfl) (val_of (AV.int .i64) e18 (by kernel_rfl)) ?_
    replace hF := obind_some hF; obtain ⟨t22, e19, hF⟩ := hF
    refine WL.val (d := (some 22)) (v := t22) (h' := h_3) (by kernel_rfl) (by kernel_rfl) (Eq.trans (by kernel_rfl) (nil_chk (h := h_3) e19)) ?_
    replace hF := obind_some hF; obtain ⟨t23, e20, hF⟩ := hF
    refine WL.val (d := (some 23)) (v := t23) (h' := h_3) (by kernel_rfl) (by kernel_rfl) (Eq.trans (by kernel_rfl) (field_ptr (P := Try.prog) (h := h_3) (s := 47) (f := 1) (by kernel_rfl) e20)) ?_
    replace hF := obind_some hF; obtain ⟨h_21, e22, hF⟩ := hF
    refine WL.eff (h' := h_21) (by kernel_rfl) (by kernel_rfl) (Eq.trans (by kernel_rfl) (store_row (P := Try.prog) (h := h_3) (t := 3) (v := (.int .i64 t21)) (by kernel_rfl) (by kernel_rfl) e22)) ?_
    refine WL.nil (by kernel_rfl) ?_
    refine Go.weaken (l' := [(0, t0), (1, strA t1), (4, .int .i64 t15)]) (Fr.sub_cons (by kernel_rfl) (Fr.sub_cons (by kernel_rfl) (Fr.sub_cons (by kernel_rfl) (Fr.sub_nil _)))) ?_
    refine n13 ?_
    refine W.seqK (by kernel_rfl) (fun K23 n23 e23 r23 p23 => ?_)
    refine W.region (by kernel_rfl) ?_
    refine WL.val (d := (some 24)) (v := strA t1) (h' := h_21) (by kernel_rfl) (by kernel_rfl) (by kernel_rfl) ?_
    refine WL.val (d := (some 25)) (v := .int .i64 t15) (h' := h_21) (by kernel_rfl) (by kernel_rfl) (by kernel_rfl) ?_
    replace hF := obind_some hF; obtain ⟨t26, e24, hF⟩ := hF
    refine WL.val (d := (some 26)) (v := strA t26) (h' := h_21) (by kernel_rfl) (by kernel_rfl) (Eq.trans (by kernel_rfl) (slice_str (P := Try.prog) (h := h_21) (t := 9) (A := (some (.int .i64 t15))) (B := none) (by kernel_rfl) (.inl ⟨_, rfl⟩) (.inr ⟨rfl, rfl⟩) e24)) ?_
    refine WL.val (d := (some 1)) (v := strA t26) (h' := h_21) (by kernel_rfl) (by kernel_rfl) (by kernel_rfl) ?_
    refine WL.nil (by kernel_rfl) ?_
    refine Go.weaken (l' := [(0, t0), (1, strA t26)]) (Fr.sub_cons (by kernel_rfl) (Fr.sub_cons (by kernel_rfl) (Fr.sub_nil _))) ?_
    refine n23 ?_
    refine W.seqK (by kernel_rfl) (fun K25 n25 e25 r25 p25 => ?_)
    refine W.draw (by kernel_rfl) (hc.ok w0) (plan := [0, 1, 2, 3, 4, 5, 6, 7, 8, 9, 10, 11, 12, 13, 14, 15, 17, 16, 18, 19]) (by kernel_rfl) (by kernel_rfl) (by kernel_rfl) ?_
    refine WD.val (d := (some 27)) (v := t0) (h' := h_21) (by kernel_rfl) (by kernel_rfl) (by kernel_rfl) (k := 0) (by kernel_rfl) (fun e => absurd e (by decide)) (by decide) ?_
    replace hF := obind_some hF; obtain ⟨t28, e26, hF⟩ := hF
    refine WD.val (d := (some 28)) (v := t28) (h' := h_21) (by kernel_rfl) (by kernel_rfl) (Eq.trans (by kernel_rfl) (nil_chk (h := h_21) e26)) (k := 0) (by kernel_rfl) (fun e => absurd e (by decide)) (by decide) ?_
    replace hF := obind_some hF; obtain ⟨t29, e27, hF⟩ := hF
    refine WD.val (d := (some 29)) (v := t29) (h' := h_21) (by kernel_rfl) (by kernel_rfl) (Eq.trans (by kernel_rfl) (field_ptr (P := Try.prog) (h := h_21) (s := 47) (f := 2) (by kernel_rfl) e27)) (k := 0) (by kernel_rfl) (fun e => absurd e (by decide)) (by decide) ?_
    refine WD.val (d := (some 30)) (v := t0) (h' := h_21) (by kernel_rfl) (by kernel_rfl) (by kernel_rfl) (k := 0) (by kernel_rfl) (fun e => absurd e (by decide)) (by decide) ?_
    replace hF := obind_some hF; obtain ⟨t31, e28, hF⟩ := hF
    refine WD.val (d := (some 31)) (v := t31) (h' := h_21) (by kernel_rfl) (by kernel_rfl) (Eq.trans (by kernel_rfl) (nil_chk (h := h_21) e28)) (k := 0) (by kernel_rfl) (fun e => absurd e (by decide)) (by decide) ?_
    replace hF := obind_some hF; obtain ⟨t32, e29, hF⟩ := hF
    refine WD.val (d := (some 32)) (v := t32) (h' := h_21) (by kernel_rfl) (by kernel_rfl) (Eq.trans (by kernel_rfl) (field_ptr (P := Try.prog) (h := h_21) (s := 47) (f := 1) (by kernel_rfl) e29)) (k := 0) (by kernel_rfl) (fun e => absurd e (by decide)) (by decide) ?_
    replace hF := obind_some hF; obtain ⟨v33, e30, hF⟩ := hF
    replace hF := obind_some hF; obtain ⟨t33, c31, hF⟩ := hF
    have c31 := avInt_some c31
    subst c31
    refine WD.val (d := (some 33)) (v := .int .i64 t33) (h' := h_21) (by kernel_rfl) (by kernel_rfl) (Eq.trans (by kernel_rfl) (load_cell (P := Try.prog) (h := h_21) (t := 3) (by kernel_rfl) e30)) (k := 1) (by kernel_rfl) (fun e => absurd e (by decide)) (by decide) ?_
    refine WD.val (d := (some 34)) (v := t0) (h' := h_21) (by kernel_rfl) (by kernel_rfl) (by kernel_rfl) (k := 0) (by kernel_rfl) (fun e => absurd e (by decide)) (by decide) ?_
    replace hF := obind_some hF; obtain ⟨t35, e32, hF⟩ := hF
    refine WD.val (d := (some 35)) (v := t35) (h' := h_21) (by kernel_rfl) (by kernel_rfl) (Eq.trans (by kernel_rfl) (nil_chk (h := h_21) e32)) (k := 0) (by kernel_rfl) (fun e => absurd e (by decide)) (by decide) ?_
    replace hF := obind_some hF; obtain ⟨t36, e33, hF⟩ := hF
    refine WD.val (d := (some 36)) (v := t36) (h' := h_21) (by kernel_rfl) (by kernel_rfl) (Eq.trans (by kernel_rfl) (field_ptr (P := Try.prog) (h := h_21) (s := 47) (f := 0) (by kernel_rfl) e33)) (k := 0) (by kernel_rfl) (fun e => absurd e (by decide)) (by decide) ?_
    replace hF := obind_some hF; obtain ⟨v37, e34, hF⟩ := hF
    replace hF := obind_some hF; obtain ⟨t37, c35, hF⟩ := hF
    have c35 := avInt_some c35
    subst c35
    refine WD.val (d := (some 37)) (v := .int .i64 t37) (h' := h_21) (by kernel_rfl) (by kernel_rfl) (Eq.trans (by kernel_rfl) (load_cell (P := Try.prog) (h := h_21) (t := 3) (by kernel_rfl) e34)) (k := 1) (by kernel_rfl) (fun e => absurd e (by decide)) (by decide) ?_
    replace hF := obind_some hF; obtain ⟨t38, e36, hF⟩ := hF
    refine WD.val (d := (some 38)) (v := .int .i64 t38) (h' := h_21) (by kernel_rfl) (by kernel_rfl) (Eq.trans (by kernel_rfl) (rem_int (P := Try.prog) (h := h_21) (t := 3) (lit := false) e36)) (k := 0) (by kernel_rfl) (fun e => absurd e (by decide)) (by decide) ?_
    refine WD.val (d := (some 39)) (v := t0) (h' := h_21) (by kernel_rfl) (by kernel_rfl) (by kernel_rfl) (k := 0) (by kernel_rfl) (fun e => absurd e (by decide)) (by decide) ?_
    replace hF := obind_some hF; obtain ⟨t40, e37, hF⟩ := hF
    refine WD.val (d := (some 40)) (v := t40) (h' := h_21) (by kernel_rfl) (by kernel_rfl) (Eq.trans (by kernel_rfl) (nil_chk (h := h_21) e37)) (k := 0) (by kernel_rfl) (fun e => absurd e (by decide)) (by decide) ?_
    replace hF := obind_some hF; obtain ⟨t41, e38, hF⟩ := hF
    refine WD.val (d := (some 41)) (v := t41) (h' := h_21) (by kernel_rfl) (by kernel_rfl) (Eq.trans (by kernel_rfl) (field_ptr (P := Try.prog) (h := h_21) (s := 47) (f := 0) (by kernel_rfl) e38)) (k := 0) (by kernel_rfl) (fun e => absurd e (by decide)) (by decide) ?_
    replace hF := obind_some hF; obtain ⟨v42, e39, hF⟩ := hF
    replace hF := obind_some hF; obtain ⟨t42, c40, hF⟩ := hF
    have c40 := avInt_some c40
    subst c40
    refine WD.val (d := (some 42)) (v := .int .i64 t42) (h' := h_21) (by kernel_rfl) (by kernel_rfl) (Eq.trans (by kernel_rfl) (load_cell (P := Try.prog) (h := h_21) (t := 3) (by kernel_rfl) e39)) (k := 1) (by kernel_rfl) (fun e => absurd e (by decide)) (by decide) ?_
    refine WD.val (d := (some 44)) (v := strA t26) (h' := h_21) (by kernel_rfl) (by kernel_rfl) (by kernel_rfl) (k := 0) (by kernel_rfl) (fun e => absurd e (by decide)) (by decide) ?_
    replace hF := outK_some hF; obtain ⟨v43, h_41, e42, hF⟩ := hF
    refine WD.val (d := (some 43)) (v := v43) (h' := h_41) (by kernel_rfl) (by kernel_rfl) (Eq.trans (by kernel_rfl) e42) (k := 2) (by kernel_rfl) (fun _ => (by kernel_rfl)) (by decide) ?_
    replace hF := outK_some hF; obtain ⟨v45, h_43, e44, hF⟩ := hF
    replace hF := obind_some hF; obtain ⟨t45, c45, hF⟩ := hF
    have c45 := avInt_some c45
    subst c45
    refine WD.val (d := (some 45)) (v := .int .i64 t45) (h' := h_43) (by kernel_rfl) (by kernel_rfl) (Eq.trans (by kernel_rfl) e44) (k := 2) (by kernel_rfl) (fun _ => (by kernel_rfl)) (by decide) ?_
    refine WD.val (d := (some 5)) (v := .int .i64 t45) (h' := h_43) (by kernel_rfl) (by kernel_rfl) (by kernel_rfl) (k := 0) (by kernel_rfl) (fun e => absurd e (by decide)) (by decide) ?_
    refine WD.nil ?_
    refine Go.weaken (l' := [(0, t0), (1, strA t26), (5, .int .i64 t45)]) (Fr.sub_cons (by kernel_rfl) (Fr.sub_cons (by kernel_rfl) (Fr.sub_cons (by kernel_rfl) (Fr.sub_nil _)))) ?_
    refine n25 ?_
    refine W.seqK (by kernel_rfl) (fun K46 n46 e46 r46 p46 => ?_)
    refine W.draw (by kernel_rfl) (hc.ok w0) (plan := [0, 1, 2, 4, 5, 6, 3, 7]) (by kernel_rfl) (by kernel_rfl) (by kernel_rfl) ?_
    refine WD.val (d := (some 46)) (v := t0) (h' := h_43) (by kernel_rfl) (by kernel_rfl) (by kernel_rfl) (k := 0) (by kernel_rfl) (fun e => absurd e (by decide)) (by decide) ?_
    replace hF := obind_some hF; obtain ⟨t47, e47, hF⟩ := hF
    refine WD.val (d := (some 47)) (v := t47) (h' := h_43) (by kernel_rfl) (by kernel_rfl) (Eq.trans (by kernel_rfl) (nil_chk (h := h_43) e47)) (k := 0) (by kernel_rfl) (fun e => absurd e (by decide)) (by decide) ?_
    replace hF := obind_some hF; obtain ⟨t48, e48, hF⟩ := hF
    refine WD.val (d := (some 48)) (v := t48) (h' := h_43) (by kernel_rfl) (by kernel_rfl) (Eq.trans (by kernel_rfl) (field_ptr (P := Try.prog) (h := h_43) (s := 47) (f := 2) (by kernel_rfl) e48)) (k := 0) (by kernel_rfl) (fun e => absurd e (by decide)) (by decide) ?_
    refine WD.val (d := (some 50)) (v := strA t26) (h' := h_43) (by kernel_rfl) (by kernel_rfl) (by kernel_rfl) (k := 0) (by kernel_rfl) (fun e => absurd e (by decide)) (by decide) ?_
    refine WD.val (d := (some 51)) (v := .int .i64 t45) (h' := h_43) (by kernel_rfl) (by kernel_rfl) (by kernel_rfl) (k := 0) (by kernel_rfl) (fun e => absurd e (by decide)) (by decide) ?_
    replace hF := obind_some hF; obtain ⟨t52, e49, hF⟩ := hF
    refine WD.val (d := (some 52)) (v := strA t52) (h' := h_43) (by kernel_rfl) (by kernel_rfl) (Eq.trans (by kernel_rfl) (slice_str (P := Try.prog) (h := h_43) (t := 9) (A := (some (.int .i64 t45))) (B := none) (by kernel_rfl) (.inl ⟨_, rfl⟩) (.inr ⟨rfl, rfl⟩) e49)) (k := 0) (by kernel_rfl) (fun e => absurd e (by decide)) (by decide) ?_
    replace hF := outK_some hF; obtain ⟨v49, h_50, e51, hF⟩ := hF
    refine WD.val (d := (some 49)) (v := v49) (h' := h_50) (by kernel_rfl) (by kernel_rfl) (Eq.trans (by kernel_rfl) e51) (k := 2) (by kernel_rfl) (fun _ => (by kernel_rfl)) (by decide) ?_
    replace hF := outK_some hF; obtain ⟨v53, h_52, e53, hF⟩ := hF
    replace hF := obind_some hF; obtain ⟨t53, c54, hF⟩ := hF
    have c54 := avInt_some c54
    subst c54
    refine WD.val (d := (some 53)) (v := .int .i64 t53) (h' := h_52) (by kernel_rfl) (by kernel_rfl) (Eq.trans (by kernel_rfl) e53) (k := 2) (by kernel_rfl) (fun _ => (by kernel_rfl)) (by decide) ?_
    refine WD.nil ?_
    refine Go.weaken (l' := [(0, t0), (1, strA t26)]) (Fr.sub_cons (by kernel_rfl) (Fr.sub_cons (by kernel_rfl) (Fr.sub_nil _))) ?_
    refine n46 ?_
    refine W.region (by kernel_rfl) ?_
    refine WL.val (d := (some 54)) (v := t0) (h' := h_52) (by kernel_rfl) (by kernel_rfl) (by kernel_rfl) ?_
    replace hF := obind_some hF; obtain ⟨t55, e55, hF⟩ := hF
    refine WL.val (d := (some 55)) (v := t55) (h' := h_52) (by kernel_rfl) (by kernel_rfl) (Eq.trans (by kernel_rfl) (nil_chk (h := h_52) e55)) ?_
    replace hF := obind_some hF; obtain ⟨t56, e56, hF⟩ := hF
    refine WL.val (d := (some 56)) (v := t56) (h' := h_52) (by kernel_rfl) (by kernel_rfl) (Eq.trans (by kernel_rfl) (field_ptr (P := Try.prog) (h := h_52) (s := 47) (f := 1) (by kernel_rfl) e56)) ?_
    replace hF := obind_some hF; obtain ⟨v57, e57, hF⟩ := hF
    replace hF := obind_some hF; obtain ⟨t57, c58, hF⟩ := hF
    have c58 := avInt_some c58
    subst c58
    refine WL.val (d := (some 57)) (v := .int .i64 t57) (h' := h_52) (by kernel_rfl) (by kernel_rfl) (Eq.trans (by kernel_rfl) (load_cell (P := Try.prog) (h := h_52) (t := 3) (by kernel_rfl) e57)) ?_
    refine WL.val (d := (some 58)) (v := strA t26) (h' := h_52) (by kernel_rfl) (by kernel_rfl) (by kernel_rfl) ?_
    refine WL.val (d := (some 59)) (v := .int .i64 (lenS t26)) (h' := h_52) (by kernel_rfl) (by kernel_rfl) (by kernel_rfl) ?_
    replace hF := lett_some hF; obtain ⟨t60, e59, hF⟩ := hF
    refine WL.val (d := (some 60)) (v := .int .i64 t60) (h' := h_52) (by kernel_rfl) (by kernel_rfl) (val_of (AV.int .i64) e59 (by kernel_rfl)) ?_
    replace hF := obind_some hF; obtain ⟨t61, e60, hF⟩ := hF
    refine WL.val (d := (some 61)) (v := t61) (h' := h_52) (by kernel_rfl) (by kernel_rfl) (Eq.trans (by kernel_rfl) (nil_chk (h := h_52) e60)) ?_
    replace hF := obind_some hF; obtain ⟨t62, e61, hF⟩ := hF
    refine WL.val (d := (some 62)) (v := t62) (h' := h_52) (by kernel_rfl) (by kernel_rfl) (Eq.trans (by kernel_rfl) (field_ptr (P := Try.prog) (h := h_52) (s := 47) (f := 1) (by kernel_rfl) e61)) ?_
    replace hF := obind_some hF; obtain ⟨h_62, e63, hF⟩ := hF
    refine WL.eff (h' := h_62) (by kernel_rfl) (by kernel_rfl) (Eq.trans (by kernel_rfl) (store_row (P := Try.prog) (h := h_52) (t := 3) (v := (.int .i64 t60)) (by kernel_rfl) (by kernel_rfl) e63)) ?_
    refine WL.nil (by kernel_rfl) ?_
    refine Go.weaken (l' := []) (Fr.sub_nil _) ?_
    obtain ⟨hF, hF2⟩ := ret_inj hF; subst hF; subst hF2
    exact leaveN_of (rs := []) (vs := []) (by kernel_rfl) res_nil (by kernel_rfl)
noncomputable def ring_Ring_Put_fn (call : CallF) (n : Nat) : FnT := fun args h => match args with
  | [x0, x1] => obind (avStr x1) fun t1 => ring_Ring_Put call n x0 t1 h
  | _ => none
set_option maxRecDepth 100000 in
theorem ring_Ring_Put_fn_eq (call : CallF) (n : Nat) (t0 : AV) (t1 : Bytes) (h : AHeap) : ring_Ring_Put_fn call n [t0, strA t1] h = ring_Ring_Put call n t0 t1 h :=
  (Eq.trans (obind_eq (fun t1 => ring_Ring_Put call n t0 t1 h) (avStr_str t1)) rfl)
theorem ring_Ring_Put_holds {call : CallF} (hc : SaysAll Try.prog call) (n : Nat) : Holds Try.prog 18 (ring_Ring_Put_fn call n) := by
  intro args h r h2 e
  unfold ring_Ring_Put_fn at e
  split at e
  · replace e := obind_some e; obtain ⟨t1, c1, e⟩ := e; have c1 := avStr_some c1; subst c1
    exact ring_Ring_Put_ok hc e
  · cases e

noncomputable def ring_Ring_Copy (_ : CallF) (_ : Nat) (t0 : AV) (h : AHeap) : R :=
  outK (opBin Try.prog h .eql 26 true (some t0) (some AV.nilp)) fun v5 h_4 =>
  obind (avBool v5) fun t5 =>
  ifB t5
  (
    some (.ret (AV.nilp), h_4))
  (
    obind (nilC t0) fun t7 =>
    obind (ldRow h_4 1026 t7) fun t8 =>
    lett (newH h_4 47 [.int .i64 0, .int .i64 0, .int .u8 0, .int .u8 0, .int .u8 0, .int .u8 0, .int .u8 0, .int .u8 0, .int .u8 0, .int .u8 0, .int .u8 0, .int .u8 0, .int .u8 0, .int .u8 0, .int .u8 0, .int .u8 0, .int .u8 0, .int .u8 0, .int .u8 0, .int .u8 0, .int .u8 0, .int .u8 0, .int .u8 0, .int .u8 0, .int .u8 0, .int .u8 0, .int .u8 0, .int .u8 0, .int .u8 0, .int .u8 0, .int .u8 0, .int .u8 0, .int .u8 0, .int .u8 0, .int .u8 0, .int .u8 0, .int .u8 0, .int .u8 0, .int .u8 0, .int .u8 0, .int .u8 0, .int .u8 0, .int .u8 0, .int .u8 0, .int .u8 0, .int .u8 0, .int .u8 0, .int .u8 0, .int .u8 0, .int .u8 0, .int .u8 0, .int .u8 0, .int .u8 0, .int .u8 0, .int .u8 0, .int .u8 0, .int .u8 0, .int .u8 0, .int .u8 0, .int .u8 0, .int .u8 0, .int .u8 0, .int .u8 0, .int .u8 0, .int .u8 0, .int .u8 0, .int .u8 0, .int .u8 0, .int .u8 0, .int .u8 0, .int .u8 0, .int .u8 0, .int .u8 0, .int .u8 0, .int .u8 0, .int .u8 0, .int .u8 0, .int .u8 0, .int .u8 0, .int .u8 0, .int .u8 0, .int .u8 0, .int .u8 0, .int .u8 0, .int .u8 0, .int .u8 0, .int .u8 0, .int .u8 0, .int .u8 0, .int .u8 0, .int .u8 0, .int .u8 0, .int .u8 0, .int .u8 0, .int .u8 0, .int .u8 0, .int .u8 0, .int .u8 0, .int .u8 0, .int .u8 0, .int .u8 0, .int .u8 0, .int .u8 0, .int .u8 0, .int .u8 0, .int .u8 0, .int .u8 0, .int .u8 0, .int .u8 0, .int .u8 0, .int .u8 0, .int .u8 0, .int .u8 0, .int .u8 0, .int .u8 0, .int .u8 0, .int .u8 0, .int .u8 0, .int .u8 0, .int .u8 0, .int .u8 0, .int .u8 0, .int .u8 0, .int .u8 0, .int .u8 0, .int .u8 0, .int .u8 0, .int .u8 0, .int .u8 0, .int .u8 0, .int .u8 0, .int .u8 0, .int .u8 0, .int .u8 0, .int .u8 0, .int .u8 0, .int .u8 0, .int .u8 0, .int .u8 0, .int .u8 0, .int .u8 0, .int .u8 0, .int .u8 0, .int .u8 0, .int .u8 0, .int .u8 0, .int .u8 0, .int .u8 0, .int .u8 0, .int .u8 0, .int .u8 0, .int .u8 0, .int .u8 0, .int .u8 0, .int .u8 0, .int .u8 0, .int .u8 0, .int .u8 0, .int .u8 0, .int .u8 0, .int .u8 0, .int .u8 0, .int .u8 0, .int .u8 0, .int .u8 0, .int .u8 0, .int .u8 0, .int .u8 0, .int .u8 0, .int .u8 0, .int .u8 0, .int .u8 0, .int .u8 0, .int .u8 0, .int .u8 0, .int .u8 0, .int .u8 0, .int .u8 0, .int .u8 0, .int .u8 0, .int .u8 0, .int .u8 0, .int .u8 0, .int .u8 0, .int .u8 0, .int .u8 0, .int .u8 0, .int .u8 0, .int .u8 0, .int .u8 0, .int .u8 0, .int .u8 0, .int .u8 0, .int .u8 0, .int .u8 0, .int .u8 0, .int .u8 0, .int .u8 0, .int .u8 0, .int .u8 0, .int .u8 0, .int .u8 0, .int .u8 0, .int .u8 0, .int .u8 0, .int .u8 0, .int .u8 0, .int .u8 0, .int .u8 0, .int .u8 0, .int .u8 0, .int .u8 0, .int .u8 0, .int .u8 0, .int .u8 0, .int .u8 0, .int .u8 0, .int .u8 0, .int .u8 0, .int .u8 0, .int .u8 0, .int .u8 0, .int .u8 0, .int .u8 0, .int .u8 0, .int .u8 0, .int .u8 0, .int .u8 0, .int .u8 0, .int .u8 0, .int .u8 0, .int .u8 0, .int .u8 0, .int .u8 0, .int .u8 0, .int .u8 0, .int .u8 0, .int .u8 0, .int .u8 0, .int .u8 0, .int .u8 0, .int .u8 0, .int .u8 0, .int .u8 0, .int .u8 0, .int .u8 0, .int .u8 0, .int .u8 0, .int .u8 0, .int .u8 0, .int .u8 0, .int .u8 0, .int .u8 0, .int .u8 0, .int .u8 0, .int .u8 0, .int .u8 0, .int .u8 0, .int .u8 0, .int .u8 0, .int .u8 0, .int .u8 0, .int .u8 0, .int .u8 0, .int .u8 0, .int .u8 0, .int .u8 0, .int .u8 0, .int .u8 0, .int .u8 0, .int .u8 0, .int .u8 0, .int .u8 0, .int .u8 0, .int .u8 0, .int .u8 0, .int .u8 0, .int .u8 0, .int .u8 0, .int .u8 0, .int .u8 0, .int .u8 0, .int .u8 0, .int .u8 0, .int .u8 0, .int .u8 0, .int .u8 0, .int .u8 0, .int .u8 0, .int .u8 0, .int .u8 0, .int .u8 0, .int .u8 0, .int .u8 0, .int .u8 0, .int .u8 0, .int .u8 0, .int .u8 0, .int .u8 0, .int .u8 0, .int .u8 0, .int .u8 0, .int .u8 0, .int .u8 0, .int .u8 0, .int .u8 0, .int .u8 0, .int .u8 0, .int .u8 0, .int .u8 0, .int .u8 0, .int .u8 0, .int .u8 0, .int .u8 0, .int .u8 0, .int .u8 0, .int .u8 0, .int .u8 0, .int .u8 0, .int .u8 0, .int .u8 0, .int .u8 0, .int .u8 0, .int .u8 0, .int .u8 0, .int .u8 0, .int .u8 0, .int .u8 0, .int .u8 0, .int .u8 0, .int .u8 0, .int .u8 0, .int .u8 0, .int .u8 0, .int .u8 0, .int .u8 0, .int .u8 0, .int .u8 0, .int .u8 0, .int .u8 0, .int .u8 0, .int .u8 0, .int .u8 0, .int .u8 0, .int .u8 0, .int .u8 0, .int .u8 0, .int .u8 0, .int .u8 0, .int .u8 0, .int .u8 0, .int .u8 0, .int .u8 0, .int .u8 0, .int .u8 0, .int .u8 0, .int .u8 0, .int .u8 0, .int .u8 0, .int .u8 0, .int .u8 0, .int .u8 0, .int .u8 0, .int .u8 0, .int .u8 0, .int .u8 0, .int .u8 0, .int .u8 0, .int .u8 0, .int .u8 0, .int .u8 0, .int .u8 0, .int .u8 0, .int .u8 0, .int .u8 0, .int .u8 0, .int .u8 0, .int .u8 0, .int .u8 0, .int .u8 0, .int .u8 0, .int .u8 0, .int .u8 0, .int .u8 0, .int .u8 0, .int .u8 0, .int .u8 0, .int .u8 0, .int .u8 0, .int .u8 0, .int .u8 0, .int .u8 0, .int .u8 0, .int .u8 0, .int .u8 0, .int .u8 0, .int .u8 0, .int .u8 0, .int .u8 0, .int .u8 0, .int .u8 0, .int .u8 0, .int .u8 0, .int .u8 0, .int .u8 0, .int .u8 0, .int .u8 0, .int .u8 0, .int .u8 0, .int .u8 0, .int .u8 0, .int .u8 0, .int .u8 0, .int .u8 0, .int .u8 0, .int .u8 0, .int .u8 0, .int .u8 0, .int .u8 0, .int .u8 0, .int .u8 0, .int .u8 0, .int .u8 0, .int .u8 0, .int .u8 0, .int .u8 0, .int .u8 0, .int .u8 0, .int .u8 0, .int .u8 0, .int .u8 0, .int .u8 0, .int .u8 0, .int .u8 0, .int .u8 0, .int .u8 0, .int .u8 0, .int .u8 0, .int .u8 0, .int .u8 0, .int .u8 0, .int .u8 0, .int .u8 0, .int .u8 0, .int .u8 0, .int .u8 0, .int .u8 0, .int .u8 0, .int .u8 0, .int .u8 0, .int .u8 0, .int .u8 0, .int .u8 0, .int .u8 0, .int .u8 0, .int .u8 0, .int .u8 0, .int .u8 0, .int .u8 0, .int .u8 0, .int .u8 0, .int .u8 0, .int .u8 0, .int .u8 0, .int .u8 0, .int .u8 0, .int .u8 0, .int .u8 0, .int .u8 0, .int .u8 0, .int .u8 0, .int .u8 0, .int .u8 0, .int .u8 0, .int .u8 0, .int .u8 0, .int .u8 0, .int .u8 0, .int .u8 0, .int .u8 0, .int .u8 0, .int .u8 0, .int .u8 0, .int .u8 0, .int .u8 0, .int .u8 0, .int .u8 0, .int .u8 0, .int .u8 0, .int .u8 0, .int .u8 0, .int .u8 0, .int .u8 0, .int .u8 0, .int .u8 0, .int .u8 0, .int .u8 0, .int .u8 0, .int .u8 0, .int .u8 0, .int .u8 0, .int .u8 0, .int .u8 0, .int .u8 0, .int .u8 0, .int .u8 0, .int .u8 0, .int .u8 0, .int .u8 0, .int .u8 0, .int .u8 0, .int .u8 0, .int .u8 0, .int .u8 0, .int .u8 0, .int .u8 0, .int .u8 0, .int .u8 0, .int .u8 0, .int .u8 0, .int .u8 0, .int .u8 0, .int .u8 0, .int .u8 0, .int .u8 0, .int .u8 0, .int .u8 0, .int .u8 0, .int .u8 0, .int .u8 0, .int .u8 0, .int .u8 0, .int .u8 0, .int .u8 0, .int .u8 0, .int .u8 0, .int .u8 0, .int .u8 0, .int .u8 0, .int .u8 0, .int .u8 0, .int .u8 0, .int .u8 0, .int .u8 0, .int .u8 0, .int .u8 0, .int .u8 0, .int .u8 0, .int .u8 0, .int .u8 0, .int .u8 0, .int .u8 0, .int .u8 0, .int .u8 0, .int .u8 0, .int .u8 0, .int .u8 0, .int .u8 0, .int .u8 0, .int .u8 0, .int .u8 0, .int .u8 0, .int .u8 0, .int .u8 0, .int .u8 0, .int .u8 0, .int .u8 0, .int .u8 0, .int .u8 0, .int .u8 0, .int .u8 0, .int .u8 0, .int .u8 0, .int .u8 0, .int .u8 0, .int .u8 0, .int .u8 0, .int .u8 0, .int .u8 0, .int .u8 0, .int .u8 0, .int .u8 0, .int .u8 0, .int .u8 0, .int .u8 0, .int .u8 0, .int .u8 0, .int .u8 0, .int .u8 0, .int .u8 0, .int .u8 0, .int .u8 0, .int .u8 0, .int .u8 0, .int .u8 0, .int .u8 0, .int .u8 0, .int .u8 0, .int .u8 0, .int .u8 0, .int .u8 0, .int .u8 0, .int .u8 0, .int .u8 0, .int .u8 0, .int .u8 0, .int .u8 0, .int .u8 0, .int .u8 0, .int .u8 0, .int .u8 0, .int .u8 0, .int .u8 0, .int .u8 0, .int .u8 0, .int .u8 0, .int .u8 0, .int .u8 0, .int .u8 0, .int .u8 0, .int .u8 0, .int .u8 0, .int .u8 0, .int .u8 0, .int .u8 0, .int .u8 0, .int .u8 0, .int .u8 0, .int .u8 0, .int .u8 0, .int .u8 0, .int .u8 0, .int .u8 0, .int .u8 0, .int .u8 0, .int .u8 0, .int .u8 0, .int .u8 0, .int .u8 0, .int .u8 0, .int .u8 0, .int .u8 0, .int .u8 0, .int .u8 0, .int .u8 0, .int .u8 0, .int .u8 0, .int .u8 0, .int .u8 0, .int .u8 0, .int .u8 0, .int .u8 0, .int .u8 0, .int .u8 0, .int .u8 0, .int .u8 0, .int .u8 0, .int .u8 0, .int .u8 0, .int .u8 0, .int .u8 0, .int .u8 0, .int .u8 0, .int .u8 0, .int .u8 0, .int .u8 0, .int .u8 0, .int .u8 0, .int .u8 0, .int .u8 0, .int .u8 0, .int .u8 0, .int .u8 0, .int .u8 0, .int .u8 0, .int .u8 0, .int .u8 0, .int .u8 0, .int .u8 0, .int .u8 0, .int .u8 0, .int .u8 0, .int .u8 0, .int .u8 0, .int .u8 0, .int .u8 0, .int .u8 0, .int .u8 0, .int .u8 0, .int .u8 0, .int .u8 0, .int .u8 0, .int .u8 0, .int .u8 0, .int .u8 0, .int .u8 0, .int .u8 0, .int .u8 0, .int .u8 0, .int .u8 0, .int .u8 0, .int .u8 0, .int .u8 0, .int .u8 0, .int .u8 0, .int .u8 0, .int .u8 0, .int .u8 0, .int .u8 0, .int .u8 0, .int .u8 0, .int .u8 0, .int .u8 0, .int .u8 0, .int .u8 0, .int .u8 0, .int .u8 0, .int .u8 0, .int .u8 0, .int .u8 0, .int .u8 0, .int .u8 0, .int .u8 0, .int .u8 0, .int .u8 0, .int .u8 0, .int .u8 0, .int .u8 0, .int .u8 0, .int .u8 0, .int .u8 0, .int .u8 0, .int .u8 0, .int .u8 0, .int .u8 0, .int .u8 0, .int .u8 0, .int .u8 0, .int .u8 0, .int .u8 0, .int .u8 0, .int .u8 0, .int .u8 0, .int .u8 0, .int .u8 0, .int .u8 0, .int .u8 0, .int .u8 0, .int .u8 0, .int .u8 0, .int .u8 0, .int .u8 0, .int .u8 0, .int .u8 0, .int .u8 0, .int .u8 0, .int .u8 0, .int .u8 0, .int .u8 0, .int .u8 0, .int .u8 0, .int .u8 0, .int .u8 0, .int .u8 0, .int .u8 0, .int .u8 0, .int .u8 0, .int .u8 0, .int .u8 0, .int .u8 0, .int .u8 0, .int .u8 0, .int .u8 0, .int .u8 0, .int .u8 0, .int .u8 0, .int .u8 0, .int .u8 0, .int .u8 0, .int .u8 0, .int .u8 0, .int .u8 0, .int .u8 0, .int .u8 0, .int .u8 0, .int .u8 0, .int .u8 0, .int .u8 0, .int .u8 0, .int .u8 0, .int .u8 0, .int .u8 0, .int .u8 0, .int .u8 0, .int .u8 0, .int .u8 0, .int .u8 0, .int .u8 0, .int .u8 0, .int .u8 0, .int .u8 0, .int .u8 0, .int .u8 0, .int .u8 0, .int .u8 0, .int .u8 0, .int .u8 0, .int .u8 0, .int .u8 0, .int .u8 0, .int .u8 0, .int .u8 0, .int .u8 0, .int .u8 0, .int .u8 0, .int .u8 0, .int .u8 0, .int .u8 0, .int .u8 0, .int .u8 0, .int .u8 0, .int .u8 0, .int .u8 0, .int .u8 0, .int .u8 0, .int .u8 0, .int .u8 0, .int .u8 0, .int .u8 0, .int .u8 0, .int .u8 0, .int .u8 0, .int .u8 0, .int .u8 0, .int .u8 0, .int .u8 0, .int .u8 0, .int .u8 0, .int .u8 0, .int .u8 0, .int .u8 0, .int .u8 0, .int .u8 0, .int .u8 0, .int .u8 0, .int .u8 0, .int .u8 0, .int .u8 0, .int .u8 0, .int .u8 0, .int .u8 0, .int .u8 0, .int .u8 0, .int .u8 0, .int .u8 0, .int .u8 0, .int .u8 0, .int .u8 0, .int .u8 0, .int .u8 0, .int .u8 0, .int .u8 0, .int .u8 0, .int .u8 0, .int .u8 0, .int .u8 0, .int .u8 0, .int .u8 0, .int .u8 0, .int .u8 0, .int .u8 0, .int .u8 0, .int .u8 0, .int .u8 0, .int .u8 0, .int .u8 0, .int .u8 0, .int .u8 0, .int .u8 0, .int .u8 0, .int .u8 0, .int .u8 0, .int .u8 0, .int .u8 0, .int .u8 0, .int .u8 0, .int .u8 0, .int .u8 0, .int .u8 0, .int .u8 0, .int .u8 0, .int .u8 0, .int .u8 0, .int .u8 0, .int .u8 0, .int .u8 0, .int .u8 0, .int .u8 0, .int .u8 0, .int .u8 0, .int .u8 0, .int .u8 0, .int .u8 0, .int .u8 0, .int .u8 0, .int .u8 0, .int .u8 0, .int .u8 0, .int .u8 0, .int .u8 0, .int .u8 0, .int .u8 0, .int .u8 0, .int .u8 0, .int .u8 0, .int .u8 0, .int .u8 0, .int .u8 0, .int .u8 0, .int .u8 0, .int .u8 0, .int .u8 0, .int .u8 0, .int .u8 0, .int .u8 0, .int .u8 0, .int .u8 0, .int .u8 0, .int .u8 0, .int .u8 0, .int .u8 0, .int .u8 0, .int .u8 0, .int .u8 0, .int .u8 0, .int .u8 0, .int .u8 0, .int .u8 0, .int .u8 0, .int .u8 0, .int .u8 0, .int .u8 0, .int .u8 0, .int .u8 0, .int .u8 0, .int .u8 0, .int .u8 0, .int .u8 0, .int .u8 0, .int .u8 0, .int .u8 0, .int .u8 0, .int .u8 0, .int .u8 0, .int .u8 0, .int .u8 0, .int .u8 0, .int .u8 0, .int .u8 0, .int .u8 0, .int .u8 0, .int .u8 0, .int .u8 0, .int .u8 0, .int .u8 0, .int .u8 0, .int .u8 0, .int .u8 0, .int .u8 0, .int .u8 0, .int .u8 0, .int .u8 0, .int .u8 0, .int .u8 0, .int .u8 0, .int .u8 0, .int .u8 0, .int .u8 0, .int .u8 0, .int .u8 0, .int .u8 0, .int .u8 0, .int .u8 0, .int .u8 0, .int .u8 0, .int .u8 0, .int .u8 0, .int .u8 0, .int .u8 0, .int .u8 0, .int .u8 0, .int .u8 0, .int .u8 0, .int .u8 0, .int .u8 0, .int .u8 0, .int .u8 0, .int .u8 0, .int .u8 0, .int .u8 0, .int .u8 0, .int .u8 0, .int .u8 0, .int .u8 0, .int .u8 0, .int .u8 0, .int .u8 0, .int .u8 0, .int .u8 0, .int .u8 0, .int .u8 0, .int .u8 0, .int .u8 0, .int .u8 0, .int .u8 0, .int .u8 0, .int .u8 0, .int .u8 0, .int .u8 0, .int .u8 0, .int .u8 0, .int .u8 0, .int .u8 0, .int .u8 0, .int .u8 0, .int .u8 0]) fun h_11 =>
    obind (stRow h_11 1026 t8 (newP h_4)) fun h_13 =>
    some (.ret (newP h_4), h_13))
set_option maxHeartbeats 4000000 in
set_option maxRecDepth 20000 in
theorem ring_Ring_Copy_ok {call : CallF} (_ : SaysAll Try.prog call) {n : Nat} {t0 : AV} {h : AHeap} {rR : ARes} {hR : AHeap} (hF : ring_Ring_Copy call n t0 h = some (rR, hR)) : Says Try.prog 19 [t0] h rR hR := by
  unfold ring_Ring_Copy at hF
  refine says_of (fn := Try.f19) Try.func19 (c := codeOf Try.f19) (by kernel_rfl) (by kernel_rfl) (fun w0 m0 => ?_)
  refine W.weaken (l' := [(0, t0)]) (Fr.sub_cons (by kernel_rfl) (Fr.sub_nil _)) ?_
  refine W.seqK (by kernel_rfl) (fun K1 n1 e1 r1 p1 => ?_)
  refine W.region (by kernel_rfl) ?_
  refine WL.val (d := (some 2)) (v := AV.nilp) (h' := h) (by kernel_rfl) (by kernel_rfl) (by kernel_rfl) ?_
  refine WL.nil (by kernel_rfl) ?_
  refine Go.weaken (l' := [(0, t0)]) (Fr.sub_cons (by kernel_rfl) (Fr.sub_nil _)) ?_
  refine n1 ?_
  refine W.seqK (by kernel_rfl) (fun K2 n2 e2 r2 p2 => ?_)
  refine W.seqK (by kernel_rfl) (fun K3 n3 e3 r3 p3 => ?_)
  refine W.region (by kernel_rfl) ?_
  refine WL.val (d := (some 4)) (v := t0) (h' := h) (by kernel_rfl) (by kernel_rfl) (by kernel_rfl) ?_
  replace hF := outK_some hF; obtain ⟨v5, h_4, e5, hF⟩ := hF
  replace hF := obind_some hF; obtain ⟨t5, c6, hF⟩ := hF
  have c6 := avBool_some c6
  subst c6
  refine WL.val (d := (some 5)) (v := .bool t5) (h' := h_4) (by kernel_rfl) (by kernel_rfl) (Eq.trans (by kernel_rfl) e5) ?_
  refine WL.nil (by kernel_rfl) ?_
  refine Go.weaken (l' := [(0, t0), (5, .bool t5)]) (Fr.sub_cons (by kernel_rfl) (Fr.sub_cons (by kernel_rfl) (Fr.sub_nil _))) ?_
  refine n3 ?_
  cases t5 with
  | true =>
    replace hF := ifB_t hF
    refine W.cond_true (by kernel_rfl) (by kernel_rfl) ?_
    refine W.seqK (by kernel_rfl) (fun K7 n7 e7 r7 p7 => ?_)
    refine W.region (by kernel_rfl) ?_
    refine WL.val (d := (some 2)) (v := AV.nilp) (h' := h_4) (by kernel_rfl) (by kernel_rfl) (by kernel_rfl) ?_
    refine WL.nil (by kernel_rfl) ?_
    refine Go.weaken (l' := [(2, AV.nilp)]) (Fr.sub_cons (by kernel_rfl) (Fr.sub_nil _)) ?_
    refine n7 ?_
    refine W.ret (by kernel_rfl) ?_
    refine r2 ?_
    obtain ⟨hF, hF2⟩ := ret_inj hF; subst hF; subst hF2
    exact leave_of (rs := [.tmp 2]) (vs := [AV.nilp]) (by kernel_rfl) (res_tmp (by kernel_rfl) res_nil) (by kernel_rfl)
  | false =>
    replace hF := ifB_f hF
    refine W.cond_false (by kernel_rfl) (by kernel_rfl) ?_
    refine W.skip (by kernel_rfl) ?_
    refine n2 ?_
    refine W.seqK (by kernel_rfl) (fun K8 n8 e8 r8 p8 => ?_)
    refine W.region (by kernel_rfl) ?_
    refine WL.val (d := (some 6)) (v := t0) (h' := h_4) (by kernel_rfl) (by kernel_rfl) (by kernel_rfl) ?_
    replace hF := obind_some hF; obtain ⟨t7, e9, hF⟩ := hF
    refine WL.val (d := (some 7)) (v := t7) (h' := h_4) (by kernel_rfl) (by kernel_rfl) (Eq.trans (by kernel_rfl) (nil_chk (h := h_4) e9)) ?_
    replace hF := obind_some hF; obtain ⟨t8, e10, hF⟩ := hF
    refine WL.val (d := (some 8)) (v := .agg t8) (h' := h_4) (by kernel_rfl) (by kernel_rfl) (Eq.trans (by kernel_rfl) (load_row (P := Try.prog) (h := h_4) (t := 47) (by kernel_rfl) (by kernel_rfl) e10)) ?_
    replace hF := lett_some hF; obtain ⟨h_11, e12, hF⟩ := hF
    refine WL.val (d := (some 3)) (v := (newP h_4)) (h' := h_11) (by kernel_rfl) (by kernel_rfl) (val_ofH e12 (by kernel_rfl)) ?_
    replace hF := obind_some hF; obtain ⟨h_13, e14, hF⟩ := hF
    refine WL.eff (h' := h_13) (by kernel_rfl) (by kernel_rfl) (Eq.trans (by kernel_rfl) (store_row (P := Try.prog) (h := h_11) (t := 47) (v := (.agg t8)) (by kernel_rfl) (by kernel_rfl) e14)) ?_
    refine WL.nil (by kernel_rfl) ?_
    refine Go.weaken (l' := [(3, (newP h_4))]) (Fr.sub_cons (by kernel_rfl) (Fr.sub_nil _)) ?_
    refine n8 ?_
    refine W.seqK (by kernel_rfl) (fun K15 n15 e15 r15 p15 => ?_)
    refine W.region (by kernel_rfl) ?_
    refine WL.val (d := (some 2)) (v := (newP h_4)) (h' := h_13) (by kernel_rfl) (by kernel_rfl) (by kernel_rfl) ?_
    refine WL.nil (by kernel_rfl) ?_
    refine Go.weaken (l' := [(2, (newP h_4))]) (Fr.sub_cons (by kernel_rfl) (Fr.sub_nil _)) ?_
    refine n15 ?_
    refine W.ret (by kernel_rfl) ?_
    obtain ⟨hF, hF2⟩ := ret_inj hF; subst hF; subst hF2
    exact leave_of (rs := [.tmp 2]) (vs := [(newP h_4)]) (by kernel_rfl) (res_tmp (by kernel_rfl) res_nil) (by kernel_rfl)
noncomputable def ring_Ring_Copy_fn (call : CallF) (n : Nat) : FnT := fun args h => match args with
  | [x0] => ring_Ring_Copy call n x0 h
  | _ => none
set_option maxRecDepth 100000 in
theorem ring_Ring_Copy_fn_eq (call : CallF) (n : Nat) (t0 : AV) (h : AHeap) : ring_Ring_Copy_fn call n [t0] h = ring_Ring_Copy call n t0 h :=
  rfl
theorem ring_Ring_Copy_holds {call : CallF} (hc : SaysAll Try.prog call) (n : Nat) : Holds Try.prog 19 (ring_Ring_Copy_fn call n) := by
  intro args h r h2 e
  unfold ring_Ring_Copy_fn at e
  split at e
  · exact ring_Ring_Copy_ok hc e
  · cases e

noncomputable def ring_New (_ : CallF) (_ : Nat) (t0 : Int) (h : AHeap) : R :=
  lett (decide (t0 < 1)) fun (t5 : Bool) =>
  lett (fun (t9 : Bool) (h_5 : AHeap) =>
    ifB t9
    (
      some (.ret (.tup [AV.nilp, .int .i64 5]), h_5))
    (
      outK (opBox h_5 47 (some (.agg ([.int .i64 t0, .int .i64 0, .int .u8 0, .int .u8 0, .int .u8 0, .int .u8 0, .int .u8 0, .int .u8 0, .int .u8 0, .int .u8 0, .int .u8 0, .int .u8 0, .int .u8 0, .int .u8 0, .int .u8 0, .int .u8 0, .int .u8 0, .int .u8 0, .int .u8 0, .int .u8 0, .int .u8 0, .int .u8 0, .int .u8 0, .int .u8 0, .int .u8 0, .int .u8 0, .int .u8 0, .int .u8 0, .int .u8 0, .int .u8 0, .int .u8 0, .int .u8 0, .int .u8 0, .int .u8 0, .int .u8 0, .int .u8 0, .int .u8 0, .int .u8 0, .int .u8 0, .int .u8 0, .int .u8 0, .int .u8 0, .int .u8 0, .int .u8 0, .int .u8 0, .int .u8 0, .int .u8 0, .int .u8 0, .int .u8 0, .int .u8 0, .int .u8 0, .int .u8 0, .int .u8 0, .int .u8 0, .int .u8 0, .int .u8 0, .int .u8 0, .int .u8 0, .int .u8 0, .int .u8 0, .int .u8 0, .int .u8 0, .int .u8 0, .int .u8 0, .int .u8 0, .int .u8 0, .int .u8 0, .int .u8 0, .int .u8 0, .int .u8 0, .int .u8 0, .int .u8 0, .int .u8 0, .int .u8 0, .int .u8 0, .int .u8 0, .int .u8 0, .int .u8 0, .int .u8 0, .int .u8 0, .int .u8 0, .int .u8 0, .int .u8 0, .int .u8 0, .int .u8 0, .int .u8 0, .int .u8 0, .int .u8 0, .int .u8 0, .int .u8 0, .int .u8 0, .int .u8 0, .int .u8 0, .int .u8 0, .int .u8 0, .int .u8 0, .int .u8 0, .int .u8 0, .int .u8 0, .int .u8 0, .int .u8 0, .int .u8 0, .int .u8 0, .int .u8 0, .int .u8 0, .int .u8 0, .int .u8 0, .int .u8 0, .int .u8 0, .int .u8 0, .int .u8 0, .int .u8 0, .int .u8 0, .int .u8 0, .int .u8 0, .int .u8 0, .int .u8 0, .int .u8 0, .int .u8 0, .int .u8 0, .int .u8 0, .int .u8 0, .int .u8 0, .int .u8 0, .int .u8 0, .int .u8 0, .int .u8 0, .int .u8 0, .int .u8 0, .int .u8 0, .int .u8 0, .int .u8 0, .int .u8 0, .int .u8 0, .int .u8 0, .int .u8 0, .int .u8 0, .int .u8 0, .int .u8 0, .int .u8 0, .int .u8 0, .int .u8 0, .int .u8 0, .int .u8 0, .int .u8 0, .int .u8 0, .int .u8 0, .int .u8 0, .int .u8 0, .int .u8 0, .int .u8 0, .int .u8 0, .int .u8 0, .int .u8 0, .int .u8 0, .int .u8 0, .int .u8 0, .int .u8 0, .int .u8 0, .int .u8 0, .int .u8 0, .int .u8 0, .int .u8 0, .int .u8 0, .int .u8 0, .int .u8 0, .int .u8 0, .int .u8 0, .int .u8 0, .int .u8 0, .int .u8 0, .int .u8 0, .int .u8 0, .int .u8 0, .int .u8 0, .int .u8 0, .int .u8 0, .int .u8 0, .int .u8 0, .int .u8 0, .int .u8 0, .int .u8 0, .int .u8 0, .int .u8 0, .int .u8 0, .int .u8 0, .int .u8 0, .int .u8 0, .int .u8 0, .int .u8 0, .int .u8 0, .int .u8 0, .int .u8 0, .int .u8 0, .int .u8 0, .int .u8 0, .int .u8 0, .int .u8 0, .int .u8 0, .int .u8 0, .int .u8 0, .int .u8 0, .int .u8 0, .int .u8 0, .int .u8 0, .int .u8 0, .int .u8 0, .int .u8 0, .int .u8 0, .int .u8 0, .int .u8 0, .int .u8 0, .int .u8 0, .int .u8 0, .int .u8 0, .int .u8 0, .int .u8 0, .int .u8 0, .int .u8 0, .int .u8 0, .int .u8 0, .int .u8 0, .int .u8 0, .int .u8 0, .int .u8 0, .int .u8 0, .int .u8 0, .int .u8 0, .int .u8 0, .int .u8 0, .int .u8 0, .int .u8 0, .int .u8 0, .int .u8 0, .int .u8 0, .int .u8 0, .int .u8 0, .int .u8 0, .int .u8 0, .int .u8 0, .int .u8 0, .int .u8 0, .int .u8 0, .int .u8 0, .int .u8 0, .int .u8 0, .int .u8 0, .int .u8 0, .int .u8 0, .int .u8 0, .int .u8 0, .int .u8 0, .int .u8 0, .int .u8 0, .int .u8 0, .int .u8 0, .int .u8 0, .int .u8 0, .int .u8 0, .int .u8 0, .int .u8 0, .int .u8 0, .int .u8 0, .int .u8 0, .int .u8 0, .int .u8 0, .int .u8 0, .int .u8 0, .int .u8 0, .int .u8 0, .int .u8 0, .int .u8 0, .int .u8 0, .int .u8 0, .int .u8 0, .int .u8 0, .int .u8 0, .int .u8 0, .int .u8 0, .int .u8 0, .int .u8 0, .int .u8 0, .int .u8 0, .int .u8 0, .int .u8 0, .int .u8 0, .int .u8 0, .int .u8 0, .int .u8 0, .int .u8 0, .int .u8 0, .int .u8 0, .int .u8 0, .int .u8 0, .int .u8 0, .int .u8 0, .int .u8 0, .int .u8 0, .int .u8 0, .int .u8 0, .int .u8 0, .int .u8 0, .int .u8 0, .int .u8 0, .int .u8 0, .int .u8 0, .int .u8 0, .int .u8 0, .int .u8 0, .int .u8 0, .int .u8 0, .int .u8 0, .int .u8 0, .int .u8 0, .int .u8 0, .int .u8 0, .int .u8 0, .int .u8 0, .int .u8 0, .int .u8 0, .int .u8 0, .int .u8 0, .int .u8 0, .int .u8 0, .int .u8 0, .int .u8 0, .int .u8 0, .int .u8 0, .int .u8 0, .int .u8 0, .int .u8 0, .int .u8 0, .int .u8 0, .int .u8 0, .int .u8 0, .int .u8 0, .int .u8 0, .int .u8 0, .int .u8 0, .int .u8 0, .int .u8 0, .int .u8 0, .int .u8 0, .int .u8 0, .int .u8 0, .int .u8 0, .int .u8 0, .int .u8 0, .int .u8 0, .int .u8 0, .int .u8 0, .int .u8 0, .int .u8 0, .int .u8 0, .int .u8 0, .int .u8 0, .int .u8 0, .int .u8 0, .int .u8 0, .int .u8 0, .int .u8 0, .int .u8 0, .int .u8 0, .int .u8 0, .int .u8 0, .int .u8 0, .int .u8 0, .int .u8 0, .int .u8 0, .int .u8 0, .int .u8 0, .int .u8 0, .int .u8 0, .int .u8 0, .int .u8 0, .int .u8 0, .int .u8 0, .int .u8 0, .int .u8 0, .int .u8 0, .int .u8 0, .int .u8 0, .int .u8 0, .int .u8 0, .int .u8 0, .int .u8 0, .int .u8 0, .int .u8 0, .int .u8 0, .int .u8 0, .int .u8 0, .int .u8 0, .int .u8 0, .int .u8 0, .int .u8 0, .int .u8 0, .int .u8 0, .int .u8 0, .int .u8 0, .int .u8 0, .int .u8 0, .int .u8 0, .int .u8 0, .int .u8 0, .int .u8 0, .int .u8 0, .int .u8 0, .int .u8 0, .int .u8 0, .int .u8 0, .int .u8 0, .int .u8 0, .int .u8 0, .int .u8 0, .int .u8 0, .int .u8 0, .int .u8 0, .int .u8 0, .int .u8 0, .int .u8 0, .int .u8 0, .int .u8 0, .int .u8 0, .int .u8 0, .int .u8 0, .int .u8 0, .int .u8 0, .int .u8 0, .int .u8 0, .int .u8 0, .int .u8 0, .int .u8 0, .int .u8 0, .int .u8 0, .int .u8 0, .int .u8 0, .int .u8 0, .int .u8 0, .int .u8 0, .int .u8 0, .int .u8 0, .int .u8 0, .int .u8 0, .int .u8 0, .int .u8 0, .int .u8 0, .int .u8 0, .int .u8 0, .int .u8 0, .int .u8 0, .int .u8 0, .int .u8 0, .int .u8 0, .int .u8 0, .int .u8 0, .int .u8 0, .int .u8 0, .int .u8 0, .int .u8 0, .int .u8 0, .int .u8 0, .int .u8 0, .int .u8 0, .int .u8 0, .int .u8 0, .int .u8 0, .int .u8 0, .int .u8 0, .int .u8 0, .int .u8 0, .int .u8 0, .int .u8 0, .int .u8 0, .int .u8 0, .int .u8 0, .int .u8 0, .int .u8 0, .int .u8 0, .int .u8 0, .int .u8 0, .int .u8 0, .int .u8 0, .int .u8 0, .int .u8 0, .int .u8 0, .int .u8 0, .int .u8 0, .int .u8 0, .int .u8 0, .int .u8 0, .int .u8 0, .int .u8 0, .int .u8 0, .int .u8 0, .int .u8 0, .int .u8 0, .int .u8 0, .int .u8 0, .int .u8 0, .int .u8 0, .int .u8 0, .int .u8 0, .int .u8 0, .int .u8 0, .int .u8 0, .int .u8 0, .int .u8 0, .int .u8 0, .int .u8 0, .int .u8 0, .int .u8 0, .int .u8 0, .int .u8 0, .int .u8 0, .int .u8 0, .int .u8 0, .int .u8 0, .int .u8 0, .int .u8 0, .int .u8 0, .int .u8 0, .int .u8 0, .int .u8 0, .int .u8 0, .int .u8 0, .int .u8 0, .int .u8 0, .int .u8 0, .int .u8 0, .int .u8 0, .int .u8 0, .int .u8 0, .int .u8 0, .int .u8 0, .int .u8 0, .int .u8 0, .int .u8 0, .int .u8 0, .int .u8 0, .int .u8 0, .int .u8 0, .int .u8 0, .int .u8 0, .int .u8 0, .int .u8 0, .int .u8 0, .int .u8 0, .int .u8 0, .int .u8 0, .int .u8 0, .int .u8 0, .int .u8 0, .int .u8 0, .int .u8 0, .int .u8 0, .int .u8 0, .int .u8 0, .int .u8 0, .int .u8 0, .int .u8 0, .int .u8 0, .int .u8 0, .int .u8 0, .int .u8 0, .int .u8 0, .int .u8 0, .int .u8 0, .int .u8 0, .int .u8 0, .int .u8 0, .int .u8 0, .int .u8 0, .int .u8 0, .int .u8 0, .int .u8 0, .int .u8 0, .int .u8 0, .int .u8 0, .int .u8 0, .int .u8 0, .int .u8 0, .int .u8 0, .int .u8 0, .int .u8 0, .int .u8 0, .int .u8 0, .int .u8 0, .int .u8 0, .int .u8 0, .int .u8 0, .int .u8 0, .int .u8 0, .int .u8 0, .int .u8 0, .int .u8 0, .int .u8 0, .int .u8 0, .int .u8 0, .int .u8 0, .int .u8 0, .int .u8 0, .int .u8 0, .int .u8 0, .int .u8 0, .int .u8 0, .int .u8 0, .int .u8 0, .int .u8 0, .int .u8 0, .int .u8 0, .int .u8 0, .int .u8 0, .int .u8 0, .int .u8 0, .int .u8 0, .int .u8 0, .int .u8 0, .int .u8 0, .int .u8 0, .int .u8 0, .int .u8 0, .int .u8 0, .int .u8 0, .int .u8 0, .int .u8 0, .int .u8 0, .int .u8 0, .int .u8 0, .int .u8 0, .int .u8 0, .int .u8 0, .int .u8 0, .int .u8 0, .int .u8 0, .int .u8 0, .int .u8 0, .int .u8 0, .int .u8 0, .int .u8 0, .int .u8 0, .int .u8 0, .int .u8 0, .int .u8 0, .int .u8 0, .int .u8 0, .int .u8 0, .int .u8 0, .int .u8 0, .int .u8 0, .int .u8 0, .int .u8 0, .int .u8 0, .int .u8 0, .int .u8 0, .int .u8 0, .int .u8 0, .int .u8 0, .int .u8 0, .int .u8 0, .int .u8 0, .int .u8 0, .int .u8 0, .int .u8 0, .int .u8 0, .int .u8 0, .int .u8 0, .int .u8 0, .int .u8 0, .int .u8 0, .int .u8 0, .int .u8 0, .int .u8 0, .int .u8 0, .int .u8 0, .int .u8 0, .int .u8 0, .int .u8 0, .int .u8 0, .int .u8 0, .int .u8 0, .int .u8 0, .int .u8 0, .int .u8 0, .int .u8 0, .int .u8 0, .int .u8 0, .int .u8 0, .int .u8 0, .int .u8 0, .int .u8 0, .int .u8 0, .int .u8 0, .int .u8 0, .int .u8 0, .int .u8 0, .int .u8 0, .int .u8 0, .int .u8 0, .int .u8 0, .int .u8 0, .int .u8 0, .int .u8 0, .int .u8 0, .int .u8 0, .int .u8 0, .int .u8 0, .int .u8 0, .int .u8 0, .int .u8 0, .int .u8 0, .int .u8 0, .int .u8 0, .int .u8 0, .int .u8 0, .int .u8 0, .int .u8 0, .int .u8 0, .int .u8 0, .int .u8 0, .int .u8 0, .int .u8 0, .int .u8 0, .int .u8 0, .int .u8 0, .int .u8 0, .int .u8 0, .int .u8 0, .int .u8 0, .int .u8 0, .int .u8 0, .int .u8 0, .int .u8 0, .int .u8 0, .int .u8 0, .int .u8 0, .int .u8 0, .int .u8 0, .int .u8 0, .int .u8 0, .int .u8 0, .int .u8 0, .int .u8 0, .int .u8 0, .int .u8 0, .int .u8 0, .int .u8 0, .int .u8 0, .int .u8 0, .int .u8 0, .int .u8 0, .int .u8 0, .int .u8 0, .int .u8 0, .int .u8 0, .int .u8 0, .int .u8 0, .int .u8 0, .int .u8 0, .int .u8 0, .int .u8 0, .int .u8 0, .int .u8 0, .int .u8 0, .int .u8 0, .int .u8 0, .int .u8 0, .int .u8 0, .int .u8 0, .int .u8 0, .int .u8 0, .int .u8 0, .int .u8 0, .int .u8 0, .int .u8 0, .int .u8 0, .int .u8 0, .int .u8 0, .int .u8 0, .int .u8 0, .int .u8 0, .int .u8 0, .int .u8 0, .int .u8 0, .int .u8 0, .int .u8 0, .int .u8 0, .int .u8 0, .int .u8 0, .int .u8 0, .int .u8 0, .int .u8 0, .int .u8 0, .int .u8 0, .int .u8 0, .int .u8 0, .int .u8 0, .int .u8 0, .int .u8 0, .int .u8 0, .int .u8 0, .int .u8 0, .int .u8 0, .int .u8 0, .int .u8 0, .int .u8 0, .int .u8 0, .int .u8 0, .int .u8 0, .int .u8 0, .int .u8 0, .int .u8 0, .int .u8 0, .int .u8 0, .int .u8 0, .int .u8 0, .int .u8 0, .int .u8 0, .int .u8 0, .int .u8 0, .int .u8 0, .int .u8 0, .int .u8 0, .int .u8 0, .int .u8 0, .int .u8 0, .int .u8 0, .int .u8 0, .int .u8 0, .int .u8 0, .int .u8 0, .int .u8 0, .int .u8 0, .int .u8 0, .int .u8 0, .int .u8 0, .int .u8 0, .int .u8 0, .int .u8 0, .int .u8 0, .int .u8 0, .int .u8 0, .int .u8 0, .int .u8 0, .int .u8 0, .int .u8 0, .int .u8 0, .int .u8 0, .int .u8 0, .int .u8 0, .int .u8 0, .int .u8 0, .int .u8 0, .int .u8 0, .int .u8 0, .int .u8 0, .int .u8 0, .int .u8 0, .int .u8 0, .int .u8 0, .int .u8 0, .int .u8 0, .int .u8 0, .int .u8 0, .int .u8 0, .int .u8 0, .int .u8 0, .int .u8 0, .int .u8 0, .int .u8 0, .int .u8 0, .int .u8 0, .int .u8 0, .int .u8 0, .int .u8 0, .int .u8 0, .int .u8 0, .int .u8 0, .int .u8 0, .int .u8 0, .int .u8 0, .int .u8 0, .int .u8 0, .int .u8 0, .int .u8 0, .int .u8 0, .int .u8 0, .int .u8 0, .int .u8 0, .int .u8 0, .int .u8 0, .int .u8 0, .int .u8 0, .int .u8 0, .int .u8 0, .int .u8 0, .int .u8 0, .int .u8 0, .int .u8 0, .int .u8 0, .int .u8 0, .int .u8 0, .int .u8 0, .int .u8 0, .int .u8 0, .int .u8 0, .int .u8 0, .int .u8 0, .int .u8 0, .int .u8 0, .int .u8 0, .int .u8 0, .int .u8 0, .int .u8 0, .int .u8 0, .int .u8 0, .int .u8 0, .int .u8 0, .int .u8 0, .int .u8 0, .int .u8 0, .int .u8 0, .int .u8 0, .int .u8 0, .int .u8 0, .int .u8 0, .int .u8 0, .int .u8 0, .int .u8 0, .int .u8 0, .int .u8 0, .int .u8 0, .int .u8 0, .int .u8 0, .int .u8 0, .int .u8 0, .int .u8 0, .int .u8 0, .int .u8 0, .int .u8 0, .int .u8 0, .int .u8 0, .int .u8 0, .int .u8 0, .int .u8 0, .int .u8 0, .int .u8 0, .int .u8 0, .int .u8 0, .int .u8 0, .int .u8 0, .int .u8 0, .int .u8 0, .int .u8 0, .int .u8 0, .int .u8 0, .int .u8 0, .int .u8 0, .int .u8 0, .int .u8 0, .int .u8 0, .int .u8 0, .int .u8 0, .int .u8 0, .int .u8 0, .int .u8 0, .int .u8 0, .int .u8 0, .int .u8 0, .int .u8 0, .int .u8 0, .int .u8 0, .int .u8 0, .int .u8 0, .int .u8 0, .int .u8 0, .int .u8 0, .int .u8 0, .int .u8 0, .int .u8 0, .int .u8 0, .int .u8 0, .int .u8 0, .int .u8 0, .int .u8 0, .int .u8 0, .int .u8 0, .int .u8 0, .int .u8 0, .int .u8 0, .int .u8 0, .int .u8 0, .int .u8 0, .int .u8 0, .int .u8 0, .int .u8 0, .int .u8 0, .int .u8 0, .int .u8 0, .int .u8 0, .int .u8 0, .int .u8 0, .int .u8 0, .int .u8 0, .int .u8 0, .int .u8 0, .int .u8 0, .int .u8 0, .int .u8 0, .int .u8 0, .int .u8 0, .int .u8 0, .int .u8 0, .int .u8 0, .int .u8 0, .int .u8 0, .int .u8 0, .int .u8 0, .int .u8 0, .int .u8 0, .int .u8 0, .int .u8 0, .int .u8 0, .int .u8 0, .int .u8 0, .int .u8 0, .int .u8 0] : List AV)))) fun v12 h_10 =>
      some (.ret (.tup [v12, .int .i64 0]), h_10))) fun j9 =>
  ifB t5
  (
    j9 true h)
  (
    lett (decide (t0 > 1024)) fun (t8 : Bool) =>
    j9 t8 h)
set_option maxHeartbeats 4000000 in
set_option maxRecDepth 20000 in
theorem ring_New_ok {call : CallF} (_ : SaysAll Try.prog call) {n : Nat} {t0 : Int} {h : AHeap} {rR : ARes} {hR : AHeap} (hF : ring_New call n t0 h = some (rR, hR)) : Says Try.prog 10 [.int .i64 t0] h rR hR := by
  unfold ring_New at hF
  refine says_of (fn := Try.f10) Try.func10 (c := codeOf Try.f10) (by kernel_rfl) (by kernel_rfl) (fun w0 m0 => ?_)
  refine W.weaken (l' := [(0, .int .i64 t0)]) (Fr.sub_cons (by kernel_rfl) (Fr.sub_nil _)) ?_
  refine W.seqK (by kernel_rfl) (fun K1 n1 e1 r1 p1 => ?_)
  refine W.region (by kernel_rfl) ?_
  refine WL.val (d := (some 2)) (v := AV.nilp) (h' := h) (by kernel_rfl) (by kernel_rfl) (by kernel_rfl) ?_
  refine WL.val (d := (some 3)) (v := .int .i64 0) (h' := h) (by kernel_rfl) (by kernel_rfl) (by kernel_rfl) ?_
  refine WL.nil (by kernel_rfl) ?_
  refine Go.weaken (l' := [(0, .int .i64 t0)]) (Fr.sub_cons (by kernel_rfl) (Fr.sub_nil _)) ?_
  refine n1 ?_
  refine W.seqK (by kernel_rfl) (fun K2 n2 e2 r2 p2 => ?_)
  refine W.seqK (by kernel_rfl) (fun K3 n3 e3 r3 p3 => ?_)
  refine W.region (by kernel_rfl) ?_
  refine WL.val (d := (some 4)) (v := .int .i64 t0) (h' := h) (by kernel_rfl) (by kernel_rfl) (by kernel_rfl) ?_
  replace hF := lett_some hF; obtain ⟨t5, e4, hF⟩ := hF
  refine WL.val (d := (some 5)) (v := .bool t5) (h' := h) (by kernel_rfl) (by kernel_rfl) (val_of AV.bool e4 (by kernel_rfl)) ?_
  refine WL.val (d := (some 6)) (v := .bool t5) (h' := h) (by kernel_rfl) (by kernel_rfl) (by kernel_rfl) ?_
  replace hF := lett_some hF; obtain ⟨j9, e6, hF⟩ := hF
  have J7 : ∀ (t9 : Bool) (h_5 : AHeap), j9 t9 h_5 = some (rR, hR) → WL Try.prog w0 m0 (Func.ntmps Try.f10) (Code.ops (Code.p1 (Code.p1 (Code.p2 (codeOf Try.f10))))) 6 K3 [(0, .int .i64 t0), (9, .bool t9)] [] h_5 := by
    intro t9 h_5 hF
    rw [e6] at hF
    refine WL.nil (by kernel_rfl) ?_
    refine Go.weaken (l' := [(0, .int .i64 t0), (9, .bool t9)]) (Fr.sub_cons (by kernel_rfl) (Fr.sub_cons (by kernel_rfl) (Fr.sub_nil _))) ?_
    refine n3 ?_
    cases t9 with
    | true =>
      replace hF := ifB_t hF
      refine W.cond_true (by kernel_rfl) (by kernel_rfl) ?_
      refine W.seqK (by kernel_rfl) (fun K8 n8 e8 r8 p8 => ?_)
      refine W.region (by kernel_rfl) ?_
      refine WL.val (d := (some 2)) (v := AV.nilp) (h' := h_5) (by kernel_rfl) (by kernel_rfl) (by kernel_rfl) ?_
      refine WL.val (d := (some 3)) (v := .int .i64 5) (h' := h_5) (by kernel_rfl) (by kernel_rfl) (by kernel_rfl) ?_
      refine WL.nil (by kernel_rfl) ?_
      refine Go.weaken (l' := [(2, AV.nilp), (3, .int .i64 5)]) (Fr.sub_cons (by kernel_rfl) (Fr.sub_cons (by kernel_rfl) (Fr.sub_nil _))) ?_
      refine n8 ?_
      refine W.ret (by kernel_rfl) ?_
      refine r2 ?_
      obtain ⟨hF, hF2⟩ := ret_inj hF; subst hF; subst hF2
      exact leave_of (rs := [.tmp 2, .tmp 3]) (vs := [AV.nilp, .int .i64 5]) (by kernel_rfl) (res_tmp (by kernel_rfl) (res_tmp (by kernel_rfl) res_nil)) (by kernel_rfl)
    | false =>
      replace hF := ifB_f hF
      refine W.cond_false (by kernel_rfl) (by kernel_rfl) ?_
      refine W.skip (by kernel_rfl) ?_
      refine n2 ?_
      refine W.seqK (by kernel_rfl) (fun K9 n9 e9 r9 p9 => ?_)
      refine W.region (by kernel_rfl) ?_
      refine WL.val (d := (some 10)) (v := .int .i64 t0) (h' := h_5) (by kernel_rfl) (by kernel_rfl) (by kernel_rfl) ?_
      refine WL.val (d := (some 11)) (v := .agg ([.int .i64 t0, .int .i64 0, .int .u8 0, .int .u8 0, .int .u8 0, .int .u8 0, .int .u8 0, .int .u8 0, .int .u8 0, .int .u8 0, .int .u8 0, .int .u8 0, .int .u8 0, .int .u8 0, .int .u8 0, .int .u8 0, .int .u8 0, .int .u8 0, .int .u8 0, .int .u8 0, .int .u8 0, .int .u8 0, .int .u8 0, .int .u8 0, .int .u8 0, .int .u8 0, .int .u8 0, .int .u8 0, .int .u8 0, .int .u8 0, .int .u8 0, .int .u8 0, .int .u8 0, .int .u8 0, .int .u8 0, .int .u8 0, .int .u8 0, .int .u8 0, .int .u8 0, .int .u8 0, .int .u8 0, .int .u8 0, .int .u8 0, .int .u8 0, .int .u8 0, .int .u8 0, .int .u8 0, .int .u8 0, .int .u8 0, .int .u8 0, .int .u8 0, .int .u8 0, .int .u8 0, .int .u8 0, .int .u8 0, .int .u8 0, .int .u8 0, .int .u8 0, .int .u8 0, .int .u8 0, .int .u8 0, .int .u8 0, .int .u8 0, .int .u8 0, .int .u8 0, .int .u8 0, .int .u8 0, .int .u8 0, .int .u8 0, .int .u8 0, .int .u8 0, .int .u8 0, .int .u8 0, .int .u8 0, .int .u8 0, .int .u8 0, .int .u8 0, .int .u8 0, .int .u8 0, .int .u8 0, .int .u8 0, .int .u8 0, .int .u8 0, .int .u8 0, .int .u8 0, .int .u8 0, .int .u8 0, .int .u8 0, .int .u8 0, .int .u8 0, .int .u8 0, .int .u8 0, .int .u8 0, .int .u8 0, .int .u8 0, .int .u8 0, .int .u8 0, .int .u8 0, .int .u8 0, .int .u8 0, .int .u8 0, .int .u8 0, .int .u8 0, .int .u8 0, .int .u8 0, .int .u8 0, .int .u8 0, .int .u8 0, .int .u8 0, .int .u8 0, .int .u8 0, .int .u8 0, .int .u8 0, .int .u8 0, .int .u8 0, .int .u8 0, .int .u8 0, .int .u8 0, .int .u8 0, .int .u8 0, .int .u8 0, .int .u8 0, .int .u8 0, .int .u8 0, .int .u8 0, .int .u8 0, .int .u8 0, .int .u8 0, .int .u8 0, .int .u8 0, .int .u8 0, .int .u8 0, .int .u8 0, .int .u8 0, .int .u8 0, .int .u8 0, .int .u8 0, .int .u8 0, .int .u8 0, .int .u8 0, .int .u8 0, .int .u8 0, .int .u8 0, .int .u8 0, .int .u8 0, .int .u8 0, .int .u8 0, .int .u8 0, .int .u8 0, .int .u8 0, .int .u8 0, .int .u8 0, .int .u8 0, .int .u8 0, .int .u8 0, .int .u8 0, .int .u8 0, .int .u8 0, .int .u8 0, .int .u8 0, .int .u8 0, .int .u8 0, .int .u8 0, .int .u8 0, .int .u8 0, .int .u8 0, .int .u8 0, .int .u8 0, .int .u8 0, .int .u8 0, .int .u8 0, .int .u8 0, .int .u8 0, .int .u8 0, .int .u8 0, .int .u8 0, .int .u8 0, .int .u8 0, .int .u8 0, .int .u8 0, .int .u8 0, .int .u8 0, .int .u8 0, .int .u8 0, .int .u8 0, .int .u8 0, .int .u8 0, .int .u8 0, .int .u8 0, .int .u8 0, .int .u8 0, .int .u8 0, .int .u8 0, .int .u8 0, .int .u8 0, .int .u8 0, .int .u8 0, .int .u8 0, .int .u8 0, .int .u8 0, .int .u8 0, .int .u8 0, .int .u8 0, .int .u8 0, .int .u8 0, .int .u8 0, .int .u8 0, .int .u8 0, .int .u8 0, .int .u8 0, .int .u8 0, .int .u8 0, .int .u8 0, .int .u8 0, .int .u8 0, .int .u8 0, .int .u8 0, .int .u8 0, .int .u8 0, .int .u8 0, .int .u8 0, .int .u8 0, .int .u8 0, .int .u8 0, .int .u8 0, .int .u8 0, .int .u8 0, .int .u8 0, .int .u8 0, .int .u8 0, .int .u8 0, .int .u8 0, .int .u8 0, .int .u8 0, .int .u8 0, .int .u8 0, .int .u8 0, .int .u8 0, .int .u8 0, .int .u8 0, .int .u8 0, .int .u8 0, .int .u8 0, .int .u8 0, .int .u8 0, .int .u8 0, .int .u8 0, .int .u8 0, .int .u8 0, .int .u8 0, .int .u8 0, .int .u8 0, .int .u8 0, .int .u8 0, .int .u8 0, .int .u8 0, .int .u8 0, .int .u8 0, .int .u8 0, .int .u8 0, .int .u8 0, .int .u8 0, .int .u8 0, .int .u8 0, .int .u8 0, .int .u8 0, .int .u8 0, .int .u8 0, .int .u8 0, .int .u8 0, .int .u8 0, .int .u8 0, .int .u8 0, .int .u8 0, .int .u8 0, .int .u8 0, .int .u8 0, .int .u8 0, .int .u8 0, .int .u8 0, .int .u8 0, .int .u8 0, .int .u8 0, .int .u8 0, .int .u8 0, .int .u8 0, .int .u8 0, .int .u8 0, .int .u8 0, .int .u8 0, .int .u8 0, .int .u8 0, .int .u8 0, .int .u8 0, .int .u8 0, .int .u8 0, .int .u8 0, .int .u8 0, .int .u8 0, .int .u8 0, .int .u8 0, .int .u8 0, .int .u8 0, .int .u8 0, .int .u8 0, .int .u8 0, .int .u8 0, .int .u8 0, .int .u8 0, .int .u8 0, .int .u8 0, .int .u8 0, .int .u8 0, .int .u8 0, .int .u8 0, .int .u8 0, .int .u8 0, .int .u8 0, .int .u8 0, .int .u8 0, .int .u8 0, .int .u8 0, .int .u8 0, .int .u8 0, .int .u8 0, .int .u8 0, .int .u8 0, .int .u8 0, .int .u8 0, .int .u8 0, .int .u8 0, .int .u8 0, .int .u8 0, .int .u8 0, .int .u8 0, .int .u8 0, .int .u8 0, .int .u8 0, .int .u8 0, .int .u8 0, .int .u8 0, .int .u8 0, .int .u8 0, .int .u8 0, .int .u8 0, .int .u8 0, .int .u8 0, .int .u8 0, .int .u8 0, .int .u8 0, .int .u8 0, .int .u8 0, .int .u8 0, .int .u8 0, .int .u8 0, .int .u8 0, .int .u8 0, .int .u8 0, .int .u8 0, .int .u8 0, .int .u8 0, .int .u8 0, .int .u8 0, .int .u8 0, .int .u8 0, .int .u8 0, .int .u8 0, .int .u8 0, .int .u8 0, .int .u8 0, .int .u8 0, .int .u8 0, .int .u8 0, .int .u8 0, .int .u8 0, .int .u8 0, .int .u8 0, .int .u8 0, .int .u8 0, .int .u8 0, .int .u8 0, .int .u8 0, .int .u8 0, .int .u8 0, .int .u8 0, .int .u8 0, .int .u8 0, .int .u8 0, .int .u8 0, .int .u8 0, .int .u8 0, .int .u8 0, .int .u8 0, .int .u8 0, .int .u8 0, .int .u8 0, .int .u8 0, .int .u8 0, .int .u8 0, .int .u8 0, .int .u8 0, .int .u8 0, .int .u8 0, .int .u8 0, .int .u8 0, .int .u8 0, .int .u8 0, .int .u8 0, .int .u8 0, .int .u8 0, .int .u8 0, .int .u8 0, .int .u8 0, .int .u8 0, .int .u8 0, .int .u8 0, .int .u8 0, .int .u8 0, .int .u8 0, .int .u8 0, .int .u8 0, .int .u8 0, .int .u8 0, .int .u8 0, .int .u8 0, .int .u8 0, .int .u8 0, .int .u8 0, .int .u8 0, .int .u8 0, .int .u8 0, .int .u8 0, .int .u8 0, .int .u8 0, .int .u8 0, .int .u8 0, .int .u8 0, .int .u8 0, .int .u8 0, .int .u8 0, .int .u8 0, .int .u8 0, .int .u8 0, .int .u8 0, .int .u8 0, .int .u8 0, .int .u8 0, .int .u8 0, .int .u8 0, .int .u8 0, .int .u8 0, .int .u8 0, .int .u8 0, .int .u8 0, .int .u8 0, .int .u8 0, .int .u8 0, .int .u8 0, .int .u8 0, .int .u8 0, .int .u8 0, .int .u8 0, .int .u8 0, .int .u8 0, .int .u8 0, .int .u8 0, .int .u8 0, .int .u8 0, .int .u8 0, .int .u8 0, .int .u8 0, .int .u8 0, .int .u8 0, .int .u8 0, .int .u8 0, .int .u8 0, .int .u8 0, .int .u8 0, .int .u8 0, .int .u8 0, .int .u8 0, .int .u8 0, .int .u8 0, .int .u8 0, .int .u8 0, .int .u8 0, .int .u8 0, .int .u8 0, .int .u8 0, .int .u8 0, .int .u8 0, .int .u8 0, .int .u8 0, .int .u8 0, .int .u8 0, .int .u8 0, .int .u8 0, .int .u8 0, .int .u8 0, .int .u8 0, .int .u8 0, .int .u8 0, .int .u8 0, .int .u8 0, .int .u8 0, .int .u8 0, .int .u8 0, .int .u8 0, .int .u8 0, .int .u8 0, .int .u8 0, .int .u8 0, .int .u8 0, .int .u8 0, .int .u8 0, .int .u8 0, .int .u8 0, .int .u8 0, .int .u8 0, .int .u8 0, .int .u8 0, .int .u8 0, .int .u8 0, .int .u8 0, .int .u8 0, .int .u8 0, .int .u8 0, .int .u8 0, .int .u8 0, .int .u8 0, .int .u8 0, .int .u8 0, .int .u8 0, .int .u8 0, .int .u8 0, .int .u8 0, .int .u8 0, .int .u8 0, .int .u8 0, .int .u8 0, .int .u8 0, .int .u8 0, .int .u8 0, .int .u8 0, .int .u8 0, .int .u8 0, .int .u8 0, .int .u8 0, .int .u8 0, .int .u8 0, .int .u8 0, .int .u8 0, .int .u8 0, .int .u8 0, .int .u8 0, .int .u8 0, .int .u8 0, .int .u8 0, .int .u8 0, .int .u8 0, .int .u8 0, .int .u8 0, .int .u8 0, .int .u8 0, .int .u8 0, .int .u8 0, .int .u8 0, .int .u8 0, .int .u8 0, .int .u8 0, .int .u8 0, .int .u8 0, .int .u8 0, .int .u8 0, .int .u8 0, .int .u8 0, .int .u8 0, .int .u8 0, .int .u8 0, .int .u8 0, .int .u8 0, .int .u8 0, .int .u8 0, .int .u8 0, .int .u8 0, .int .u8 0, .int .u8 0, .int .u8 0, .int .u8 0, .int .u8 0, .int .u8 0, .int .u8 0, .int .u8 0, .int .u8 0, .int .u8 0, .int .u8 0, .int .u8 0, .int .u8 0, .int .u8 0, .int .u8 0, .int .u8 0, .int .u8 0, .int .u8 0, .int .u8 0, .int .u8 0, .int .u8 0, .int .u8 0, .int .u8 0, .int .u8 0, .int .u8 0, .int .u8 0, .int .u8 0, .int .u8 0, .int .u8 0, .int .u8 0, .int .u8 0, .int .u8 0, .int .u8 0, .int .u8 0, .int .u8 0, .int .u8 0, .int .u8 0, .int .u8 0, .int .u8 0, .int .u8 0, .int .u8 0, .int .u8 0, .int .u8 0, .int .u8 0, .int .u8 0, .int .u8 0, .int .u8 0, .int .u8 0, .int .u8 0, .int .u8 0, .int .u8 0, .int .u8 0, .int .u8 0, .int .u8 0, .int .u8 0, .int .u8 0, .int .u8 0, .int .u8 0, .int .u8 0, .int .u8 0, .int .u8 0, .int .u8 0, .int .u8 0, .int .u8 0, .int .u8 0, .int .u8 0, .int .u8 0, .int .u8 0, .int .u8 0, .int .u8 0, .int .u8 0, .int .u8 0, .int .u8 0, .int .u8 0, .int .u8 0, .int .u8 0, .int .u8 0, .int .u8 0, .int .u8 0, .int .u8 0, .int .u8 0, .int .u8 0, .int .u8 0, .int .u8 0, .int .u8 0, .int .u8 0, .int .u8 0, .int .u8 0, .int .u8 0, .int .u8 0, .int .u8 0, .int .u8 0, .int .u8 0, .int .u8 0, .int .u8 0, .int .u8 0, .int .u8 0, .int .u8 0, .int .u8 0, .int .u8 0, .int .u8 0, .int .u8 0, .int .u8 0, .int .u8 0, .int .u8 0, .int .u8 0, .int .u8 0, .int .u8 0, .int .u8 0, .int .u8 0, .int .u8 0, .int .u8 0, .int .u8 0, .int .u8 0, .int .u8 0, .int .u8 0, .int .u8 0, .int .u8 0, .int .u8 0, .int .u8 0, .int .u8 0, .int .u8 0, .int .u8 0, .int .u8 0, .int .u8 0, .int .u8 0, .int .u8 0, .int .u8 0, .int .u8 0, .int .u8 0, .int .u8 0, .int .u8 0, .int .u8 0, .int .u8 0, .int .u8 0, .int .u8 0, .int .u8 0, .int .u8 0, .int .u8 0, .int .u8 0, .int .u8 0, .int .u8 0, .int .u8 0, .int .u8 0, .int .u8 0, .int .u8 0, .int .u8 0, .int .u8 0, .int .u8 0, .int .u8 0, .int .u8 0, .int .u8 0, .int .u8 0, .int .u8 0, .int .u8 0, .int .u8 0, .int .u8 0, .int .u8 0, .int .u8 0, .int .u8 0, .int .u8 0, .int .u8 0, .int .u8 0, .int .u8 0, .int .u8 0, .int .u8 0, .int .u8 0, .int .u8 0, .int .u8 0, .int .u8 0, .int .u8 0, .int .u8 0, .int .u8 0, .int .u8 0, .int .u8 0, .int .u8 0, .int .u8 0, .int .u8 0, .int .u8 0, .int .u8 0, .int .u8 0, .int .u8 0, .int .u8 0, .int .u8 0, .int .u8 0, .int .u8 0, .int .u8 0, .int .u8 0, .int .u8 0, .int .u8 0, .int .u8 0, .int .u8 0, .int .u8 0, .int .u8 0, .int .u8 0, .int .u8 0, .int .u8 0, .int .u8 0, .int .u8 0, .int .u8 0, .int .u8 0, .int .u8 0, .int .u8 0, .int .u8 0, .int .u8 0, .int .u8 0, .int .u8 0, .int .u8 0, .int .u8 0, .int .u8 0, .int .u8 0, .int .u8 0, .int .u8 0, .int .u8 0, .int .u8 0, .int .u8 0, .int .u8 0, .int .u8 0, .int .u8 0, .int .u8 0, .int .u8 0, .int .u8 0, .int .u8 0, .int .u8 0, .int .u8 0, .int .u8 0, .int .u8 0, .int .u8 0, .int .u8 0, .int .u8 0, .int .u8 0, .int .u8 0, .int .u8 0, .int .u8 0, .int .u8 0, .int .u8 0, .int .u8 0, .int .u8 0, .int .u8 0, .int .u8 0, .int .u8 0, .int .u8 0, .int .u8 0, .int .u8 0, .int .u8 0, .int .u8 0, .int .u8 0, .int .u8 0, .int .u8 0, .int .u8 0, .int .u8 0, .int .u8 0, .int .u8 0, .int .u8 0, .int .u8 0, .int .u8 0, .int .u8 0, .int .u8 0, .int .u8 0, .int .u8 0, .int .u8 0, .int .u8 0, .int .u8 0, .int .u8 0, .int .u8 0, .int .u8 0, .int .u8 0, .int .u8 0, .int .u8 0, .int .u8 0, .int .u8 0, .int .u8 0, .int .u8 0, .int .u8 0, .int .u8 0, .int .u8 0, .int .u8 0, .int .u8 0, .int .u8 0, .int .u8 0, .int .u8 0, .int .u8 0, .int .u8 0, .int .u8 0, .int .u8 0, .int .u8 0, .int .u8 0, .int .u8 0, .int .u8 0, .int .u8 0, .int .u8 0, .int .u8 0, .int .u8 0, .int .u8 0, .int .u8 0, .int .u8 0, .int .u8 0, .int .u8 0, .int .u8 0, .int .u8 0, .int .u8 0, .int .u8 0, .int .u8 0, .int .u8 0, .int .u8 0, .int .u8 0, .int .u8 0, .int .u8 0, .int .u8 0, .int .u8 0, .int .u8 0, .int .u8 0, .int .u8 0, .int .u8 0, .int .u8 0, .int .u8 0, .int .u8 0, .int .u8 0, .int .u8 0, .int .u8 0, .int .u8 0, .int .u8 0, .int .u8 0, .int .u8 0, .int .u8 0, .int .u8 0, .int .u8 0, .int .u8 0, .int .u8 0, .int .u8 0, .int .u8 0, .int .u8 0, .int .u8 0, .int .u8 0, .int .u8 0, .int .u8 0, .int .u8 0, .int .u8 0, .int .u8 0, .int .u8 0, .int .u8 0, .int .u8 0, .int .u8 0, .int .u8 0, .int .u8 0, .int .u8 0, .int .u8 0, .int .u8 0, .int .u8 0, .int .u8 0, .int .u8 0, .int .u8 0, .int .u8 0, .int .u8 0, .int .u8 0, .int .u8 0, .int .u8 0, .int .u8 0, .int .u8 0, .int .u8 0, .int .u8 0, .int .u8 0, .int .u8 0, .int .u8 0, .int .u8 0, .int .u8 0, .int .u8 0, .int .u8 0, .int .u8 0, .int .u8 0, .int .u8 0, .int .u8 0, .int .u8 0, .int .u8 0, .int .u8 0, .int .u8 0, .int .u8 0, .int .u8 0, .int .u8 0, .int .u8 0, .int .u8 0, .int .u8 0, .int .u8 0, .int .u8 0, .int .u8 0, .int .u8 0, .int .u8 0, .int .u8 0, .int .u8 0, .int .u8 0, .int .u8 0, .int .u8 0, .int .u8 0, .int .u8 0, .int .u8 0, .int .u8 0, .int .u8 0, .int .u8 0, .int .u8 0, .int .u8 0, .int .u8 0, .int .u8 0, .int .u8 0, .int .u8 0, .int .u8 0, .int .u8 0, .int .u8 0, .int .u8 0, .int .u8 0, .int .u8 0, .int .u8 0, .int .u8 0, .int .u8 0, .int .u8 0, .int .u8 0, .int .u8 0, .int .u8 0, .int .u8 0, .int .u8 0, .int .u8 0, .int .u8 0, .int .u8 0, .int .u8 0, .int .u8 0, .int .u8 0, .int .u8 0, .int .u8 0, .int .u8 0, .int .u8 0, .int .u8 0, .int .u8 0, .int .u8 0, .int .u8 0, .int .u8 0, .int .u8 0, .int .u8 0, .int .u8 0, .int .u8 0, .int .u8 0, .int .u8 0, .int .u8 0] : List AV)) (h' := h_5) (by kernel_rfl) (by kernel_rfl) (by kernel_rfl) ?_
      replace hF := outK_some hF; obtain ⟨v12, h_10, e11, hF⟩ := hF
      refine WL.val (d := (some 12)) (v := v12) (h' := h_10) (by kernel_rfl) (by kernel_rfl) (Eq.trans (by kernel_rfl) e11) ?_
      refine WL.val (d := (some 2)) (v := v12) (h' := h_10) (by kernel_rfl) (by kernel_rfl) (by kernel_rfl) ?_
      refine WL.val (d := (some 3)) (v := .int .i64 0) (h' := h_10) (by kernel_rfl) (by kernel_rfl) (by kernel_rfl) ?_
      refine WL.nil (by kernel_rfl) ?_
      refine Go.weaken (l' := [(2, v12), (3, .int .i64 0)]) (Fr.sub_cons (by kernel_rfl) (Fr.sub_cons (by kernel_rfl) (Fr.sub_nil _))) ?_
      refine n9 ?_
      refine W.ret (by kernel_rfl) ?_
      obtain ⟨hF, hF2⟩ := ret_inj hF; subst hF; subst hF2
      exact leave_of (rs := [.tmp 2, .tmp 3]) (vs := [v12, .int .i64 0]) (by kernel_rfl) (res_tmp (by kernel_rfl) (res_tmp (by kernel_rfl) res_nil)) (by kernel_rfl)
  cases t5 with
  | true =>
    replace hF := ifB_t hF
    refine WL.not (d := (some 7)) (by kernel_rfl) (by kernel_rfl) ?_
    refine WL.not (d := (some 8)) (by kernel_rfl) (by kernel_rfl) ?_
    refine WL.val (d := (some 9)) (v := .bool true) (h' := h) (by kernel_rfl) (by kernel_rfl) (by kernel_rfl) ?_
    exact WL.weaken (Fr.sub_cons (by kernel_rfl) (Fr.sub_cons (by kernel_rfl) (Fr.sub_nil _))) (J7 _ _ hF)
  | false =>
    replace hF := ifB_f hF
    refine WL.val (d := (some 7)) (v := .int .i64 t0) (h' := h) (by kernel_rfl) (by kernel_rfl) (by kernel_rfl) ?_
    replace hF := lett_some hF; obtain ⟨t8, e12, hF⟩ := hF
    refine WL.val (d := (some 8)) (v := .bool t8) (h' := h) (by kernel_rfl) (by kernel_rfl) (val_of AV.bool e12 (by kernel_rfl)) ?_
    refine WL.val (d := (some 9)) (v := .bool t8) (h' := h) (by kernel_rfl) (by kernel_rfl) (by kernel_rfl) ?_
    exact WL.weaken (Fr.sub_cons (by kernel_rfl) (Fr.sub_cons (by kernel_rfl) (Fr.sub_nil _))) (J7 _ _ hF)
noncomputable def ring_New_fn (call : CallF) (n : Nat) : FnT := fun args h => match args with
  | [x0] => obind (avInt .i64 x0) fun t0 => ring_New call n t0 h
  | _ => none
set_option maxRecDepth 100000 in
theorem ring_New_fn_eq (call : CallF) (n : Nat) (t0 : Int) (h : AHeap) : ring_New_fn call n [.int .i64 t0] h = ring_New call n t0 h :=
  (Eq.trans (obind_eq (fun t0 => ring_New call n t0 h) (avInt_int .i64 t0)) rfl)
theorem ring_New_holds {call : CallF} (hc : SaysAll Try.prog call) (n : Nat) : Holds Try.prog 10 (ring_New_fn call n) := by
  intro args h r h2 e
  unfold ring_New_fn at e
  split at e
  · replace e := obind_some e; obtain ⟨t0, c0, e⟩ := e; have c0 := avInt_some c0; subst c0
    exact ring_New_ok hc e
  · cases e

noncomputable def ref21_Limit (_ : CallF) (_ : Nat) (t0 : Int) (h : AHeap) : R :=
  lett (decide (t0 ≥ 1)) fun (t4 : Bool) =>
  lett (fun (t8 : Bool) (h_4 : AHeap) =>
    some (.ret (.bool t8), h_4)) fun j8 =>
  ifB t4
  (
    lett (decide (t0 ≤ 1024)) fun (t7 : Bool) =>
    j8 t7 h)
  (
    j8 false h)
set_option maxHeartbeats 4000000 in
set_option maxRecDepth 20000 in
theorem ref21_Limit_ok {call : CallF} (_ : SaysAll Try.prog call) {n : Nat} {t0 : Int} {h : AHeap} {rR : ARes} {hR : AHeap} (hF : ref21_Limit call n t0 h = some (rR, hR)) : Says Try.prog 12 [.int .i64 t0] h rR hR := by
  unfold ref21_Limit at hF
  refine says_of (fn := Try.f12) Try.func12 (c := codeOf Try.f12) (by kernel_rfl) (by kernel_rfl) (fun w0 m0 => ?_)
  refine W.weaken (l' := [(0, .int .i64 t0)]) (Fr.sub_cons (by kernel_rfl) (Fr.sub_nil _)) ?_
  refine W.seqK (by kernel_rfl) (fun K1 n1 e1 r1 p1 => ?_)
  refine W.region (by kernel_rfl) ?_
  refine WL.val (d := (some 2)) (v := .bool false) (h' := h) (by kernel_rfl) (by kernel_rfl) (by kernel_rfl) ?_
  refine WL.nil (by kernel_rfl) ?_
  refine Go.weaken (l' := [(0, .int .i64 t0)]) (Fr.sub_cons (by kernel_rfl) (Fr.sub_nil _)) ?_
  refine n1 ?_
  refine W.seqK (by kernel_rfl) (fun K2 n2 e2 r2 p2 => ?_)
  refine W.region (by kernel_rfl) ?_
  refine WL.val (d := (some 3)) (v := .int .i64 t0) (h' := h) (by kernel_rfl) (by kernel_rfl) (by kernel_rfl) ?_
  replace hF := lett_some hF; obtain ⟨t4, e3, hF⟩ := hF
  refine WL.val (d := (some 4)) (v := .bool t4) (h' := h) (by kernel_rfl) (by kernel_rfl) (val_of AV.bool e3 (by kernel_rfl)) ?_
  refine WL.val (d := (some 5)) (v := .bool t4) (h' := h) (by kernel_rfl) (by kernel_rfl) (by kernel_rfl) ?_
  replace hF := lett_some hF; obtain ⟨j8, e5, hF⟩ := hF
  have J6 : ∀ (t8 : Bool) (h_4 : AHeap), j8 t8 h_4 = some (rR, hR) → WL Try.prog w0 m0 (Func.ntmps Try.f12) (Code.ops (Code.p1 (Code.p2 (codeOf Try.f12)))) 6 K2 [(8, .bool t8)] [] h_4 := by
    intro t8 h_4 hF
    rw [e5] at hF
    refine WL.val (d := (some 2)) (v := .bool t8) (h' := h_4) (by kernel_rfl) (by kernel_rfl) (by kernel_rfl) ?_
    refine WL.nil (by kernel_rfl) ?_
    refine Go.weaken (l' := [(2, .bool t8)]) (Fr.sub_cons (by kernel_rfl) (Fr.sub_nil _)) ?_
    refine n2 ?_
    refine W.ret (by kernel_rfl) ?_
    obtain ⟨hF, hF2⟩ := ret_inj hF; subst hF; subst hF2
    exact leave_of (rs := [.tmp 2]) (vs := [.bool t8]) (by kernel_rfl) (res_tmp (by kernel_rfl) res_nil) (by kernel_rfl)
  cases t4 with
  | true =>
    replace hF := ifB_t hF
    refine WL.val (d := (some 6)) (v := .int .i64 t0) (h' := h) (by kernel_rfl) (by kernel_rfl) (by kernel_rfl) ?_
    replace hF := lett_some hF; obtain ⟨t7, e7, hF⟩ := hF
    refine WL.val (d := (some 7)) (v := .bool t7) (h' := h) (by kernel_rfl) (by kernel_rfl) (val_of AV.bool e7 (by kernel_rfl)) ?_
    refine WL.val (d := (some 8)) (v := .bool t7) (h' := h) (by kernel_rfl) (by kernel_rfl) (by kernel_rfl) ?_
    exact WL.weaken (Fr.sub_cons (by kernel_rfl) (Fr.sub_nil _)) (J6 _ _ hF)
  | false =>
    replace hF := ifB_f hF
    refine WL.not (d := (some 6)) (by kernel_rfl) (by kernel_rfl) ?_
    refine WL.not (d := (some 7)) (by kernel_rfl) (by kernel_rfl) ?_
    refine WL.val (d := (some 8)) (v := .bool false) (h' := h) (by kernel_rfl) (by kernel_rfl) (by kernel_rfl) ?_
    exact WL.weaken (Fr.sub_cons (by kernel_rfl) (Fr.sub_nil _)) (J6 _ _ hF)
noncomputable def ref21_Limit_fn (call : CallF) (n : Nat) : FnT := fun args h => match args with
  | [x0] => obind (avInt .i64 x0) fun t0 => ref21_Limit call n t0 h
  | _ => none
set_option maxRecDepth 100000 in
theorem ref21_Limit_fn_eq (call : CallF) (n : Nat) (t0 : Int) (h : AHeap) : ref21_Limit_fn call n [.int .i64 t0] h = ref21_Limit call n t0 h :=
  (Eq.trans (obind_eq (fun t0 => ref21_Limit call n t0 h) (avInt_int .i64 t0)) rfl)
theorem ref21_Limit_holds {call : CallF} (hc : SaysAll Try.prog call) (n : Nat) : Holds Try.prog 12 (ref21_Limit_fn call n) := by
  intro args h r h2 e
  unfold ref21_Limit_fn at e
  split at e
  · replace e := obind_some e; obtain ⟨t0, c0, e⟩ := e; have c0 := avInt_some c0; subst c0
    exact ref21_Limit_ok hc e
  · cases e

noncomputable def ref21_From (call : CallF) (_ : Nat) (t0 : Bytes) (t1 : Int) (t2 : Int) (t3 : Int) (h : AHeap) : R :=
  lett (decide (t2 > (lenS t0))) fun (t16 : Bool) =>
  lett (fun (t20 : Bool) (h_5 : AHeap) =>
    ifB t20
    (
      some (.ret (.tup [strA ([] : Bytes), .int .i64 0, .int .i64 5]), h_5))
    (
      callN (call 17 [strA t0, .int .i64 t1] h_5) fun r23 h_10 =>
      obind (avInt .i64 r23) fun t23 =>
      lett (decide (t2 < t23)) fun (t26 : Bool) =>
      lett (fun (t2_17 : Int) (h_18 : AHeap) =>
        obind (sliceS t0 t2_17 (lenS t0)) fun t30 =>
        lett (decide ((lenS t30) > t3)) fun (t34 : Bool) =>
        lett (fun (t12 : Bytes) (h_25 : AHeap) =>
          some (.ret (.tup [strA t12, .int .i64 t2_17, .int .i64 0]), h_25)) fun k24 =>
        ifB t34
        (
          obind (sliceS t30 0 t3) fun t37 =>
          k24 t37 h_18)
        (
          k24 t30 h_18)) fun k16 =>
      ifB t26
      (
        k16 t23 h_10)
      (
        k16 t2 h_10))) fun j20 =>
  ifB t16
  (
    j20 true h)
  (
    lett (decide (t3 < 0)) fun (t19 : Bool) =>
    j20 t19 h)
set_option maxHeartbeats 4000000 in
set_option maxRecDepth 20000 in
theorem ref21_From_ok {call : CallF} (hc : SaysAll Try.prog call) {n : Nat} {t0 : Bytes} {t1 : Int} {t2 : Int} {t3 : Int} {h : AHeap} {rR : ARes} {hR : AHeap} (hF : ref21_From call n t0 t1 t2 t3 h = some (rR, hR)) : Says Try.prog 14 [strA t0, .int .i64 t1, .int .i64 t2, .int .i64 t3] h rR hR := by
  unfold ref21_From at hF
  refine says_of (fn := Try.f14) Try.func14 (c := codeOf Try.f14) (by kernel_rfl) (by kernel_rfl) (fun w0 m0 => ?_)
  refine W.weaken (l' := [(0, strA t0), (1, .int .i64 t1), (2, .int .i64 t2), (3, .int .i64 t3)]) (Fr.sub_cons (by kernel_rfl) (Fr.sub_cons (by kernel_rfl) (Fr.sub_cons (by kernel_rfl) (Fr.sub_cons (by kernel_rfl) (Fr.sub_nil _))))) ?_
  refine W.seqK (by kernel_rfl) (fun K1 n1 e1 r1 p1 => ?_)
  refine W.region (by kernel_rfl) ?_
  refine WL.val (d := (some 8)) (v := strA ([] : Bytes)) (h' := h) (by kernel_rfl) (by kernel_rfl) (by kernel_rfl) ?_
  refine WL.val (d := (some 9)) (v := .int .i64 0) (h' := h) (by kernel_rfl) (by kernel_rfl) (by kernel_rfl) ?_
  refine WL.val (d := (some 10)) (v := .int .i64 0) (h' := h) (by kernel_rfl) (by kernel_rfl) (by kernel_rfl) ?_
  refine WL.nil (by kernel_rfl) ?_
  refine Go.weaken (l' := [(0, strA t0), (1, .int .i64 t1), (2, .int .i64 t2), (3, .int .i64 t3)]) (Fr.sub_cons (by kernel_rfl) (Fr.sub_cons (by kernel_rfl) (Fr.sub_cons (by kernel_rfl) (Fr.sub_cons (by kernel_rfl) (Fr.sub_nil _))))) ?_
  refine n1 ?_
  refine W.seqK (by kernel_rfl) (fun K2 n2 e2 r2 p2 => ?_)
  refine W.seqK (by kernel_rfl) (fun K3 n3 e3 r3 p3 => ?_)
  refine W.region (by kernel_rfl) ?_
  refine WL.val (d := (some 13)) (v := .int .i64 t2) (h' := h) (by kernel_rfl) (by kernel_rfl) (by kernel_rfl) ?_
  refine WL.val (d := (some 14)) (v := strA t0) (h' := h) (by kernel_rfl) (by kernel_rfl) (by kernel_rfl) ?_
  refine WL.val (d := (some 15)) (v := .int .i64 (lenS t0)) (h' := h) (by kernel_rfl) (by kernel_rfl) (by kernel_rfl) ?_
  replace hF := lett_some hF; obtain ⟨t16, e4, hF⟩ := hF
  refine WL.val (d := (some 16)) (v := .bool t16) (h' := h) (by kernel_rfl) (by kernel_rfl) (val_of AV.bool e4 (by kernel_rfl)) ?_
  refine WL.val (d := (some 17)) (v := .bool t16) (h' := h) (by kernel_rfl) (by kernel_rfl) (by kernel_rfl) ?_
  replace hF := lett_some hF; obtain ⟨j20, e6, hF⟩ := hF
  have J7 : ∀ (t20 : Bool) (h_5 : AHeap), j20 t20 h_5 = some (rR, hR) → WL Try.prog w0 m0 (Func.ntmps Try.f14) (Code.ops (Code.p1 (Code.p1 (Code.p2 (codeOf Try.f14))))) 8 K3 [(0, strA t0), (1, .int .i64 t1), (2, .int .i64 t2), (3, .int .i64 t3), (20, .bool t20)] [] h_5 := by
    intro t20 h_5 hF
    rw [e6] at hF
    refine WL.nil (by kernel_rfl) ?_
    refine Go.weaken (l' := [(0, strA t0), (1, .int .i64 t1), (2, .int .i64 t2), (3, .int .i64 t3), (20, .bool t20)]) (Fr.sub_cons (by kernel_rfl) (Fr.sub_cons (by kernel_rfl) (Fr.sub_cons (by kernel_rfl) (Fr.sub_cons (by kernel_rfl) (Fr.sub_cons (by kernel_rfl) (Fr.sub_nil _)))))) ?_
    refine n3 ?_
    cases t20 with
    | true =>
      replace hF := ifB_t hF
      refine W.cond_true (by kernel_rfl) (by kernel_rfl) ?_
      refine W.seqK (by kernel_rfl) (fun K8 n8 e8 r8 p8 => ?_)
      refine W.region (by kernel_rfl) ?_
      refine WL.val (d := (some 8)) (v := strA ([] : Bytes)) (h' := h_5) (by kernel_rfl) (by kernel_rfl) (by kernel_rfl) ?_
      refine WL.val (d := (some 9)) (v := .int .i64 0) (h' := h_5) (by kernel_rfl) (by kernel_rfl) (by kernel_rfl) ?_
      refine WL.val (d := (some 10)) (v := .int .i64 5) (h' := h_5) (by kernel_rfl) (by kernel_rfl) (by kernel_rfl) ?_
      refine WL.nil (by kernel_rfl) ?_
      refine Go.weaken (l' := [(8, strA ([] : Bytes)), (9, .int .i64 0), (10, .int .i64 5)]) (Fr.sub_cons (by kernel_rfl) (Fr.sub_cons (by kernel_rfl) (Fr.sub_cons (by kernel_rfl) (Fr.sub_nil _)))) ?_
      refine n8 ?_
      refine W.ret (by kernel_rfl) ?_
      refine r2 ?_
      obtain ⟨hF, hF2⟩ := ret_inj hF; subst hF; subst hF2
      exact leave_of (rs := [.tmp 8, .tmp 9, .tmp 10]) (vs := [strA ([] : Bytes), .int .i64 0, .int .i64 5]) (by kernel_rfl) (res_tmp (by kernel_rfl) (res_tmp (by kernel_rfl) (res_tmp (by kernel_rfl) res_nil))) (by kernel_rfl)
    | false =>
      replace hF := ifB_f hF
      refine W.cond_false (by kernel_rfl) (by kernel_rfl) ?_
      refine W.skip (by kernel_rfl) ?_
      refine n2 ?_
      refine W.seqK (by kernel_rfl) (fun K9 n9 e9 r9 p9 => ?_)
      refine W.region (by kernel_rfl) ?_
      refine WL.val (d := (some 21)) (v := strA t0) (h' := h_5) (by kernel_rfl) (by kernel_rfl) (by kernel_rfl) ?_
      refine WL.val (d := (some 22)) (v := .int .i64 t1) (h' := h_5) (by kernel_rfl) (by kernel_rfl) (by kernel_rfl) ?_
      replace hF := callN_some hF; obtain ⟨r23, h_10, e11, hF⟩ := hF
      replace hF := obind_some hF; obtain ⟨t23, c12, hF⟩ := hF
      have c12 := avInt_some c12
      subst c12
      refine WL.call (hc.ok w0) (d := (some 23)) (by kernel_rfl) (by kernel_rfl) (by kernel_rfl) e11 ?_
      refine WL.val (d := (some 11)) (v := .int .i64 t23) (h' := h_10) (by kernel_rfl) (by kernel_rfl) (by kernel_rfl) ?_
      refine WL.nil (by kernel_rfl) ?_
      refine Go.weaken (l' := [(0, strA t0), (2, .int .i64 t2), (3, .int .i64 t3), (11, .int .i64 t23)]) (Fr.sub_cons (by kernel_rfl) (Fr.sub_cons (by kernel_rfl) (Fr.sub_cons (by kernel_rfl) (Fr.sub_cons (by kernel_rfl) (Fr.sub_nil _))))) ?_
      refine n9 ?_
      refine W.seqK (by kernel_rfl) (fun K13 n13 e13 r13 p13 => ?_)
      refine W.seqK (by kernel_rfl) (fun K14 n14 e14 r14 p14 => ?_)
      refine W.region (by kernel_rfl) ?_
      refine WL.val (d := (some 24)) (v := .int .i64 t2) (h' := h_10) (by kernel_rfl) (by kernel_rfl) (by kernel_rfl) ?_
      refine WL.val (d := (some 25)) (v := .int .i64 t23) (h' := h_10) (by kernel_rfl) (by kernel_rfl) (by kernel_rfl) ?_
      replace hF := lett_some hF; obtain ⟨t26, e15, hF⟩ := hF
      refine WL.val (d := (some 26)) (v := .bool t26) (h' := h_10) (by kernel_rfl) (by kernel_rfl) (val_of AV.bool e15 (by kernel_rfl)) ?_
      refine WL.nil (by kernel_rfl) ?_
      refine Go.weaken (l' := [(0, strA t0), (2, .int .i64 t2), (3, .int .i64 t3), (11, .int .i64 t23), (26, .bool t26)]) (Fr.sub_cons (by kernel_rfl) (Fr.sub_cons (by kernel_rfl) (Fr.sub_cons (by kernel_rfl) (Fr.sub_cons (by kernel_rfl) (Fr.sub_cons (by kernel_rfl) (Fr.sub_nil _)))))) ?_
      refine n14 ?_
      replace hF := lett_some hF; obtain ⟨k16, e16, hF⟩ := hF
      have J16 : ∀ (t2_17 : Int) (h_18 : AHeap), k16 t2_17 h_18 = some (rR, hR) → Go w0 m0 (Func.ntmps Try.f14) (K13 .normal) [(0, strA t0), (2, .int .i64 t2_17), (3, .int .i64 t3)] [] h_18 := by
        intro t2_17 h_18 hF
        rw [e16] at hF
        refine n13 ?_
        refine W.seqK (by kernel_rfl) (fun K19 n19 e19 r19 p19 => ?_)
        refine W.region (by kernel_rfl) ?_
        refine WL.val (d := (some 28)) (v := strA t0) (h' := h_18) (by kernel_rfl) (by kernel_rfl) (by kernel_rfl) ?_
        refine WL.val (d := (some 29)) (v := .int .i64 t2_17) (h' := h_18) (by kernel_rfl) (by kernel_rfl) (by kernel_rfl) ?_
        replace hF := obind_some hF; obtain ⟨t30, e20, hF⟩ := hF
        refine WL.val (d := (some 30)) (v := strA t30) (h' := h_18) (by kernel_rfl) (by kernel_rfl) (Eq.trans (by kernel_rfl) (slice_str (P := Try.prog) (h := h_18) (t := 9) (A := (some (.int .i64 t2_17))) (B := none) (by kernel_rfl) (.inl ⟨_, rfl⟩) (.inr ⟨rfl, rfl⟩) e20)) ?_
        refine WL.val (d := (some 12)) (v := strA t30) (h' := h_18) (by kernel_rfl) (by kernel_rfl) (by kernel_rfl) ?_
        refine WL.nil (by kernel_rfl) ?_
        refine Go.weaken (l' := [(2, .int .i64 t2_17), (3, .int .i64 t3), (12, strA t30)]) (Fr.sub_cons (by kernel_rfl) (Fr.sub_cons (by kernel_rfl) (Fr.sub_cons (by kernel_rfl) (Fr.sub_nil _)))) ?_
        refine n19 ?_
        refine W.seqK (by kernel_rfl) (fun K21 n21 e21 r21 p21 => ?_)
        refine W.seqK (by kernel_rfl) (fun K22 n22 e22 r22 p22 => ?_)
        refine W.region (by kernel_rfl) ?_
        refine WL.val (d := (some 31)) (v := strA t30) (h' := h_18) (by kernel_rfl) (by kernel_rfl) (by kernel_rfl) ?_
        refine WL.val (d := (some 32)) (v := .int .i64 (lenS t30)) (h' := h_18) (by kernel_rfl) (by kernel_rfl) (by kernel_rfl) ?_
        refine WL.val (d := (some 33)) (v := .int .i64 t3) (h' := h_18) (by kernel_rfl) (by kernel_rfl) (by kernel_rfl) ?_
        replace hF := lett_some hF; obtain ⟨t34, e23, hF⟩ := hF
        refine WL.val (d := (some 34)) (v := .bool t34) (h' := h_18) (by kernel_rfl) (by kernel_rfl) (val_of AV.bool e23 (by kernel_rfl)) ?_
        refine WL.nil (by kernel_rfl) ?_
        refine Go.weaken (l' := [(2, .int .i64 t2_17), (3, .int .i64 t3), (12, strA t30), (34, .bool t34)]) (Fr.sub_cons (by kernel_rfl) (Fr.sub_cons (by kernel_rfl) (Fr.sub_cons (by kernel_rfl) (Fr.sub_cons (by kernel_rfl) (Fr.sub_nil _))))) ?_
        refine n22 ?_
        replace hF := lett_some hF; obtain ⟨k24, e24, hF⟩ := hF
        have J24 : ∀ (t12 : Bytes) (h_25 : AHeap), k24 t12 h_25 = some (rR, hR) → Go w0 m0 (Func.ntmps Try.f14) (K21 .normal) [(2, .int .i64 t2_17), (12, strA t12)] [] h_25 := by
          intro t12 h_25 hF
          rw [e24] at hF
          refine n21 ?_
          refine W.seqK (by kernel_rfl) (fun K26 n26 e26 r26 p26 => ?_)
          refine W.region (by kernel_rfl) ?_
          refine WL.val (d := (some 38)) (v := strA t12) (h' := h_25) (by kernel_rfl) (by kernel_rfl) (by kernel_rfl) ?_
          refine WL.val (d := (some 39)) (v := .int .i64 t2_17) (h' := h_25) (by kernel_rfl) (by kernel_rfl) (by kernel_rfl) ?_
          refine WL.val (d := (some 8)) (v := strA t12) (h' := h_25) (by kernel_rfl) (by kernel_rfl) (by kernel_rfl) ?_
          refine WL.val (d := (some 9)) (v := .int .i64 t2_17) (h' := h_25) (by kernel_rfl) (by kernel_rfl) (by kernel_rfl) ?_
          refine WL.val (d := (some 10)) (v := .int .i64 0) (h' := h_25) (by kernel_rfl) (by kernel_rfl) (by kernel_rfl) ?_
          refine WL.nil (by kernel_rfl) ?_
          refine Go.weaken (l' := [(8, strA t12), (9, .int .i64 t2_17), (10, .int .i64 0)]) (Fr.sub_cons (by kernel_rfl) (Fr.sub_cons (by kernel_rfl) (Fr.sub_cons (by kernel_rfl) (Fr.sub_nil _)))) ?_
          refine n26 ?_
          refine W.ret (by kernel_rfl) ?_
          obtain ⟨hF, hF2⟩ := ret_inj hF; subst hF; subst hF2
          exact leave_of (rs := [.tmp 8, .tmp 9, .tmp 10]) (vs := [strA t12, .int .i64 t2_17, .int .i64 0]) (by kernel_rfl) (res_tmp (by kernel_rfl) (res_tmp (by kernel_rfl) (res_tmp (by kernel_rfl) res_nil))) (by kernel_rfl)
        cases t34 with
        | true =>
          replace hF := ifB_t hF
          refine W.cond_true (by kernel_rfl) (by kernel_rfl) ?_
          refine W.region (by kernel_rfl) ?_
          refine WL.val (d := (some 35)) (v := strA t30) (h' := h_18) (by kernel_rfl) (by kernel_rfl) (by kernel_rfl) ?_
          refine WL.val (d := (some 36)) (v := .int .i64 t3) (h' := h_18) (by kernel_rfl) (by kernel_rfl) (by kernel_rfl) ?_
          replace hF := obind_some hF; obtain ⟨t37, e27, hF⟩ := hF
          refine WL.val (d := (some 37)) (v := strA t37) (h' := h_18) (by kernel_rfl) (by kernel_rfl) (Eq.trans (by kernel_rfl) (slice_str (P := Try.prog) (h := h_18) (t := 9) (A := none) (B := (some (.int .i64 t3))) (by kernel_rfl) (.inr ⟨rfl, rfl⟩) (.inl ⟨_, rfl⟩) e27)) ?_
          refine WL.val (d := (some 12)) (v := strA t37) (h' := h_18) (by kernel_rfl) (by kernel_rfl) (by kernel_rfl) ?_
          refine WL.nil (by kernel_rfl) ?_
          refine Go.weaken (l' := [(2, .int .i64 t2_17), (12, strA t37)]) (Fr.sub_cons (by kernel_rfl) (Fr.sub_cons (by kernel_rfl) (Fr.sub_nil _))) ?_
          exact Go.weaken (Fr.sub_cons (by kernel_rfl) (Fr.sub_cons (by kernel_rfl) (Fr.sub_nil _))) (J24 _ _ hF)
        | false =>
          replace hF := ifB_f hF
          refine W.cond_false (by kernel_rfl) (by kernel_rfl) ?_
          refine W.skip (by kernel_rfl) ?_
          exact Go.weaken (Fr.sub_cons (by kernel_rfl) (Fr.sub_cons (by kernel_rfl) (Fr.sub_nil _))) (J24 _ _ hF)
      cases t26 with
      | true =>
        replace hF := ifB_t hF
        refine W.cond_true (by kernel_rfl) (by kernel_rfl) ?_
        refine W.region (by kernel_rfl) ?_
        refine WL.val (d := (some 27)) (v := .int .i64 t23) (h' := h_10) (by kernel_rfl) (by kernel_rfl) (by kernel_rfl) ?_
        refine WL.val (d := (some 2)) (v := .int .i64 t23) (h' := h_10) (by kernel_rfl) (by kernel_rfl) (by kernel_rfl) ?_
        refine WL.nil (by kernel_rfl) ?_
        refine Go.weaken (l' := [(0, strA t0), (2, .int .i64 t23), (3, .int .i64 t3)]) (Fr.sub_cons (by kernel_rfl) (Fr.sub_cons (by kernel_rfl) (Fr.sub_cons (by kernel_rfl) (Fr.sub_nil _)))) ?_
        exact Go.weaken (Fr.sub_cons (by kernel_rfl) (Fr.sub_cons (by kernel_rfl) (Fr.sub_cons (by kernel_rfl) (Fr.sub_nil _)))) (J16 _ _ hF)
      | false =>
        replace hF := ifB_f hF
        refine W.cond_false (by kernel_rfl) (by kernel_rfl) ?_
        refine W.skip (by kernel_rfl) ?_
        exact Go.weaken (Fr.sub_cons (by kernel_rfl) (Fr.sub_cons (by kernel_rfl) (Fr.sub_cons (by kernel_rfl) (Fr.sub_nil _)))) (J16 _ _ hF)
  cases t16 with
  | true =>
    replace hF := ifB_t hF
    refine WL.not (d := (some 18)) (by kernel_rfl) (by kernel_rfl) ?_
    refine WL.not (d := (some 19)) (by kernel_rfl) (by kernel_rfl) ?_
    refine WL.val (d := (some 20)) (v := .bool true) (h' := h) (by kernel_rfl) (by kernel_rfl) (by kernel_rfl) ?_
    exact WL.weaken (Fr.sub_cons (by kernel_rfl) (Fr.sub_cons (by kernel_rfl) (Fr.sub_cons (by kernel_rfl) (Fr.sub_cons (by kernel_rfl) (Fr.sub_cons (by kernel_rfl) (Fr.sub_nil _)))))) (J7 _ _ hF)
  | false =>
    replace hF := ifB_f hF
    refine WL.val (d := (some 18)) (v := .int .i64 t3) (h' := h) (by kernel_rfl) (by kernel_rfl) (by kernel_rfl) ?_
    replace hF := lett_some hF; obtain ⟨t19, e28, hF⟩ := hF
    refine WL.val (d := (some 19)) (v := .bool t19) (h' := h) (by kernel_rfl) (by kernel_rfl) (val_of AV.bool e28 (by kernel_rfl)) ?_
    refine WL.val (d := (some 20)) (v := .bool t19) (h' := h) (by kernel_rfl) (by kernel_rfl) (by kernel_rfl) ?_
    exact WL.weaken (Fr.sub_cons (by kernel_rfl) (Fr.sub_cons (by kernel_rfl) (Fr.sub_cons (by kernel_rfl) (Fr.sub_cons (by kernel_rfl) (Fr.sub_cons (by kernel_rfl) (Fr.sub_nil _)))))) (J7 _ _ hF)
noncomputable def ref21_From_fn (call : CallF) (n : Nat) : FnT := fun args h => match args with
  | [x0, x1, x2, x3] => obind (avStr x0) fun t0 => obind (avInt .i64 x1) fun t1 => obind (avInt .i64 x2) fun t2 => obind (avInt .i64 x3) fun t3 => ref21_From call n t0 t1 t2 t3 h
  | _ => none
set_option maxRecDepth 100000 in
theorem ref21_From_fn_eq (call : CallF) (n : Nat) (t0 : Bytes) (t1 : Int) (t2 : Int) (t3 : Int) (h : AHeap) : ref21_From_fn call n [strA t0, .int .i64 t1, .int .i64 t2, .int .i64 t3] h = ref21_From call n t0 t1 t2 t3 h :=
  (Eq.trans (obind_eq (fun t0 => obind (avInt .i64 (.int .i64 t1)) fun t1 => obind (avInt .i64 (.int .i64 t2)) fun t2 => obind (avInt .i64 (.int .i64 t3)) fun t3 => ref21_From call n t0 t1 t2 t3 h) (avStr_str t0)) (Eq.trans (obind_eq (fun t1 => obind (avInt .i64 (.int .i64 t2)) fun t2 => obind (avInt .i64 (.int .i64 t3)) fun t3 => ref21_From call n t0 t1 t2 t3 h) (avInt_int .i64 t1)) (Eq.trans (obind_eq (fun t2 => obind (avInt .i64 (.int .i64 t3)) fun t3 => ref21_From call n t0 t1 t2 t3 h) (avInt_int .i64 t2)) (Eq.trans (obind_eq (fun t3 => ref21_From call n t0 t1 t2 t3 h) (avInt_int .i64 t3)) rfl))))
theorem ref21_From_holds {call : CallF} (hc : SaysAll Try.prog call) (n : Nat) : Holds Try.prog 14 (ref21_From_fn call n) := by
  intro args h r h2 e
  unfold ref21_From_fn at e
  split at e
  · replace e := obind_some e; obtain ⟨t0, c0, e⟩ := e; have c0 := avStr_some c0; subst c0
    replace e := obind_some e; obtain ⟨t1, c1, e⟩ := e; have c1 := avInt_some c1; subst c1
    replace e := obind_some e; obtain ⟨t2, c2, e⟩ := e; have c2 := avInt_some c2; subst c2
    replace e := obind_some e; obtain ⟨t3, c3, e⟩ := e; have c3 := avInt_some c3; subst c3
    exact ref21_From_ok hc e
  · cases e

noncomputable def ref21_First (_ : CallF) (_ : Nat) (t0 : Bytes) (t1 : Int) (h : AHeap) : R :=
  lett (decide ((lenS t0) > t1)) fun (t8 : Bool) =>
  ifB t8
  (
    lett (IntKind.i64.wrap ((lenS t0) - t1)) fun (t12 : Int) =>
    some (.ret (.int .i64 t12), h))
  (
    some (.ret (.int .i64 0), h))
set_option maxHeartbeats 4000000 in
set_option maxRecDepth 20000 in
theorem ref21_First_ok {call : CallF} (_ : SaysAll Try.prog call) {n : Nat} {t0 : Bytes} {t1 : Int} {h : AHeap} {rR : ARes} {hR : AHeap} (hF : ref21_First call n t0 t1 h = some (rR, hR)) : Says Try.prog 17 [strA t0, .int .i64 t1] h rR hR := by
  unfold ref21_First at hF
  refine says_of (fn := Try.f17) Try.func17 (c := codeOf Try.f17) (by kernel_rfl) (by kernel_rfl) (fun w0 m0 => ?_)
  refine W.weaken (l' := [(0, strA t0), (1, .int .i64 t1)]) (Fr.sub_cons (by kernel_rfl) (Fr.sub_cons (by kernel_rfl) (Fr.sub_nil _))) ?_
  refine W.seqK (by kernel_rfl) (fun K1 n1 e1 r1 p1 => ?_)
  refine W.region (by kernel_rfl) ?_
  refine WL.val (d := (some 4)) (v := .int .i64 0) (h' := h) (by kernel_rfl) (by kernel_rfl) (by kernel_rfl) ?_
  refine WL.nil (by kernel_rfl) ?_
  refine Go.weaken (l' := [(0, strA t0), (1, .int .i64 t1)]) (Fr.sub_cons (by kernel_rfl) (Fr.sub_cons (by kernel_rfl) (Fr.sub_nil _))) ?_
  refine n1 ?_
  refine W.seqK (by kernel_rfl) (fun K2 n2 e2 r2 p2 => ?_)
  refine W.seqK (by kernel_rfl) (fun K3 n3 e3 r3 p3 => ?_)
  refine W.region (by kernel_rfl) ?_
  refine WL.val (d := (some 5)) (v := strA t0) (h' := h) (by kernel_rfl) (by kernel_rfl) (by kernel_rfl) ?_
  refine WL.val (d := (some 6)) (v := .int .i64 (lenS t0)) (h' := h) (by kernel_rfl) (by kernel_rfl) (by kernel_rfl) ?_
  refine WL.val (d := (some 7)) (v := .int .i64 t1) (h' := h) (by kernel_rfl) (by kernel_rfl) (by kernel_rfl) ?_
  replace hF := lett_some hF; obtain ⟨t8, e4, hF⟩ := hF
  refine WL.val (d := (some 8)) (v := .bool t8) (h' := h) (by kernel_rfl) (by kernel_rfl) (val_of AV.bool e4 (by kernel_rfl)) ?_
  refine WL.nil (by kernel_rfl) ?_
  refine Go.weaken (l' := [(0, strA t0), (1, .int .i64 t1), (8, .bool t8)]) (Fr.sub_cons (by kernel_rfl) (Fr.sub_cons (by kernel_rfl) (Fr.sub_cons (by kernel_rfl) (Fr.sub_nil _)))) ?_
  refine n3 ?_
  cases t8 with
  | true =>
    replace hF := ifB_t hF
    refine W.cond_true (by kernel_rfl) (by kernel_rfl) ?_
    refine W.seqK (by kernel_rfl) (fun K5 n5 e5 r5 p5 => ?_)
    refine W.region (by kernel_rfl) ?_
    refine WL.val (d := (some 9)) (v := strA t0) (h' := h) (by kernel_rfl) (by kernel_rfl) (by kernel_rfl) ?_
    refine WL.val (d := (some 10)) (v := .int .i64 (lenS t0)) (h' := h) (by kernel_rfl) (by kernel_rfl) (by kernel_rfl) ?_
    refine WL.val (d := (some 11)) (v := .int .i64 t1) (h' := h) (by kernel_rfl) (by kernel_rfl) (by kernel_rfl) ?_
    replace hF := lett_some hF; obtain ⟨t12, e6, hF⟩ := hF
    refine WL.val (d := (some 12)) (v := .int .i64 t12) (h' := h) (by kernel_rfl) (by kernel_rfl) (val_of (AV.int .i64) e6 (by kernel_rfl)) ?_
    refine WL.val (d := (some 4)) (v := .int .i64 t12) (h' := h) (by kernel_rfl) (by kernel_rfl) (by kernel_rfl) ?_
    refine WL.nil (by kernel_rfl) ?_
    refine Go.weaken (l' := [(4, .int .i64 t12)]) (Fr.sub_cons (by kernel_rfl) (Fr.sub_nil _)) ?_
    refine n5 ?_
    refine W.ret (by kernel_rfl) ?_
    refine r2 ?_
    obtain ⟨hF, hF2⟩ := ret_inj hF; subst hF; subst hF2
    exact leave_of (rs := [.tmp 4]) (vs := [.int .i64 t12]) (by kernel_rfl) (res_tmp (by kernel_rfl) res_nil) (by kernel_rfl)
  | false =>
    replace hF := ifB_f hF
    refine W.cond_false (by kernel_rfl) (by kernel_rfl) ?_
    refine W.skip (by kernel_rfl) ?_
    refine n2 ?_
    refine W.seqK (by kernel_rfl) (fun K7 n7 e7 r7 p7 => ?_)
    refine W.region (by kernel_rfl) ?_
    refine WL.val (d := (some 4)) (v := .int .i64 0) (h' := h) (by kernel_rfl) (by kernel_rfl) (by kernel_rfl) ?_
    refine WL.nil (by kernel_rfl) ?_
    refine Go.weaken (l' := [(4, .int .i64 0)]) (Fr.sub_cons (by kernel_rfl) (Fr.sub_nil _)) ?_
    refine n7 ?_
    refine W.ret (by kernel_rfl) ?_
    obtain ⟨hF, hF2⟩ := ret_inj hF; subst hF; subst hF2
    exact leave_of (rs := [.tmp 4]) (vs := [.int .i64 0]) (by kernel_rfl) (res_tmp (by kernel_rfl) res_nil) (by kernel_rfl)
noncomputable def ref21_First_fn (call : CallF) (n : Nat) : FnT := fun args h => match args with
  | [x0, x1] => obind (avStr x0) fun t0 => obind (avInt .i64 x1) fun t1 => ref21_First call n t0 t1 h
  | _ => none
set_option maxRecDepth 100000 in
theorem ref21_First_fn_eq (call : CallF) (n : Nat) (t0 : Bytes) (t1 : Int) (h : AHeap) : ref21_First_fn call n [strA t0, .int .i64 t1] h = ref21_First call n t0 t1 h :=
  (Eq.trans (obind_eq (fun t0 => obind (avInt .i64 (.int .i64 t1)) fun t1 => ref21_First call n t0 t1 h) (avStr_str t0)) (Eq.trans (obind_eq (fun t1 => ref21_First call n t0 t1 h) (avInt_int .i64 t1)) rfl))
theorem ref21_First_holds {call : CallF} (hc : SaysAll Try.prog call) (n : Nat) : Holds Try.prog 17 (ref21_First_fn call n) := by
  intro args h r h2 e
  unfold ref21_First_fn at e
  split at e
  · replace e := obind_some e; obtain ⟨t0, c0, e⟩ := e; have c0 := avStr_some c0; subst c0
    replace e := obind_some e; obtain ⟨t1, c1, e⟩ := e; have c1 := avInt_some c1; subst c1
    exact ref21_First_ok hc e
  · cases e

noncomputable def law21_joined_L1b (t0 : AV) (k11 : Int → AHeap → R) (self : Int → Int → AHeap → R) (t4_41 : Int) (t5 : Int) (h_42 : AHeap) : R :=
  obind (lenL t0) fun t13 =>
  lett (decide (t5 < t13)) fun (t14 : Bool) =>
  ifB t14
  (
    obind (idxP 1 t0 t5) fun t20 =>
    obind (ldCell h_42 t20) fun v21 =>
    obind (avStr v21) fun t21 =>
    lett (IntKind.i64.wrap (t4_41 + (lenS t21))) fun (t23 : Int) =>
    lett (decide (t23 > 20000)) fun (t25 : Bool) =>
    ifB t25
    (
      some (.ret (.tup [strA ([] : Bytes), .bool false]), h_42))
    (
      lett (IntKind.i64.wrap (t5 + 1)) fun (t16 : Int) =>
      self t23 t16 h_42))
  (
    k11 t4_41 h_42)
noncomputable def law21_joined_L1 (t0 : AV) (k11 : Int → AHeap → R) : Nat → Int → Int → AHeap → R := iterR (fun _ _ _ => none) (law21_joined_L1b t0 k11)
theorem law21_joined_L1_s (t0 : AV) (k11 : Int → AHeap → R) (m : Nat) : law21_joined_L1 t0 k11 (m + 1) = law21_joined_L1b t0 k11 (law21_joined_L1 t0 k11 m) := rfl
noncomputable def law21_joined_L0b (t0 : AV) (k19 : AV → AHeap → R) (self : AV → Int → AHeap → R) (t6_26 : AV) (t7 : Int) (h_27 : AHeap) : R :=
  obind (lenL t0) fun t30 =>
  lett (decide (t7 < t30)) fun (t31 : Bool) =>
  ifB t31
  (
    obind (idxP 1 t0 t7) fun t37 =>
    obind (ldCell h_27 t37) fun v38 =>
    obind (avStr v38) fun t38 =>
    outK (opAppend Try.prog h_27 44 9 t6_26 (strA t38)) fun v39 h_37 =>
    lett (IntKind.i64.wrap (t7 + 1)) fun (t33 : Int) =>
    self v39 t33 h_37)
  (
    k19 t6_26 h_27)
noncomputable def law21_joined_L0 (t0 : AV) (k19 : AV → AHeap → R) : Nat → AV → Int → AHeap → R := iterR (fun _ _ _ => none) (law21_joined_L0b t0 k19)
theorem law21_joined_L0_s (t0 : AV) (k19 : AV → AHeap → R) (m : Nat) : law21_joined_L0 t0 k19 (m + 1) = law21_joined_L0b t0 k19 (law21_joined_L0 t0 k19 m) := rfl
noncomputable def law21_joined (_ : CallF) (n : Nat) (t0 : AV) (h : AHeap) : R :=
  obind (lenL t0) fun t9 =>
  lett (decide (t9 > 2000)) fun (t10 : Bool) =>
  ifB t10
  (
    some (.ret (.tup [strA ([] : Bytes), .bool false]), h))
  (
    lett (fun (t4 : Int) (h_12 : AHeap) =>
      outK (opMakeSlice Try.prog h_12 44 (some (.int .i64 0)) (some (.int .i64 t4))) fun v27 h_14 =>
      lett (fun (t6 : AV) (h_20 : AHeap) =>
        outK (opConv Try.prog h_20 44 9 (some t6)) fun v41 h_22 =>
        obind (avStr v41) fun t41 =>
        some (.ret (.tup [strA t41, .bool true]), h_22)) fun k19 =>
      law21_joined_L0 t0 k19 n v27 0 h_14) fun k11 =>
    law21_joined_L1 t0 k11 n 0 0 h)
set_option maxHeartbeats 4000000 in
set_option maxRecDepth 20000 in
theorem law21_joined_ok {call : CallF} (_ : SaysAll Try.prog call) {n : Nat} {t0 : AV} {h : AHeap} {rR : ARes} {hR : AHeap} (hF : law21_joined call n t0 h = some (rR, hR)) : Says Try.prog 9 [t0] h rR hR := by
  unfold law21_joined at hF
  refine says_of (fn := Try.f9) Try.func9 (c := codeOf Try.f9) (by kernel_rfl) (by kernel_rfl) (fun w0 m0 => ?_)
  refine W.weaken (l' := [(0, t0)]) (Fr.sub_cons (by kernel_rfl) (Fr.sub_nil _)) ?_
  refine W.seqK (by kernel_rfl) (fun K1 n1 e1 r1 p1 => ?_)
  refine W.region (by kernel_rfl) ?_
  refine WL.val (d := (some 2)) (v := strA ([] : Bytes)) (h' := h) (by kernel_rfl) (by kernel_rfl) (by kernel_rfl) ?_
  refine WL.val (d := (some 3)) (v := .bool false) (h' := h) (by kernel_rfl) (by kernel_rfl) (by kernel_rfl) ?_
  refine WL.nil (by kernel_rfl) ?_
  refine Go.weaken (l' := [(0, t0)]) (Fr.sub_cons (by kernel_rfl) (Fr.sub_nil _)) ?_
  refine n1 ?_
  refine W.seqK (by kernel_rfl) (fun K2 n2 e2 r2 p2 => ?_)
  refine W.seqK (by kernel_rfl) (fun K3 n3 e3 r3 p3 => ?_)
  refine W.region (by kernel_rfl) ?_
  refine WL.val (d := (some 8)) (v := t0) (h' := h) (by kernel_rfl) (by kernel_rfl) (by kernel_rfl) ?_
  replace hF := obind_some hF; obtain ⟨t9, e4, hF⟩ := hF
  refine WL.val (d := (some 9)) (v := .int .i64 t9) (h' := h) (by kernel_rfl) (by kernel_rfl) (Eq.trans (by kernel_rfl) (len_row (P := Try.prog) (h := h) (t := 22) (e' := 9) (by kernel_rfl) e4)) ?_
  replace hF := lett_some hF; obtain ⟨t10, e5, hF⟩ := hF
  refine WL.val (d := (some 10)) (v := .bool t10) (h' := h) (by kernel_rfl) (by kernel_rfl) (val_of AV.bool e5 (by kernel_rfl)) ?_
  refine WL.nil (by kernel_rfl) ?_
  refine Go.weaken (l' := [(0, t0), (10, .bool t10)]) (Fr.sub_cons (by kernel_rfl) (Fr.sub_cons (by kernel_rfl) (Fr.sub_nil _))) ?_
  refine n3 ?_
  cases t10 with
  | true =>
    replace hF := ifB_t hF
    refine W.cond_true (by kernel_rfl) (by kernel_rfl) ?_
    refine W.seqK (by kernel_rfl) (fun K6 n6 e6 r6 p6 => ?_)
    refine W.region (by kernel_rfl) ?_
    refine WL.val (d := (some 2)) (v := strA ([] : Bytes)) (h' := h) (by kernel_rfl) (by kernel_rfl) (by kernel_rfl) ?_
    refine WL.val (d := (some 3)) (v := .bool false) (h' := h) (by kernel_rfl) (by kernel_rfl) (by kernel_rfl) ?_
    refine WL.nil (by kernel_rfl) ?_
    refine Go.weaken (l' := [(2, strA ([] : Bytes)), (3, .bool false)]) (Fr.sub_cons (by kernel_rfl) (Fr.sub_cons (by kernel_rfl) (Fr.sub_nil _))) ?_
    refine n6 ?_
    refine W.ret (by kernel_rfl) ?_
    refine r2 ?_
    obtain ⟨hF, hF2⟩ := ret_inj hF; subst hF; subst hF2
    exact leave_of (rs := [.tmp 2, .tmp 3]) (vs := [strA ([] : Bytes), .bool false]) (by kernel_rfl) (res_tmp (by kernel_rfl) (res_tmp (by kernel_rfl) res_nil)) (by kernel_rfl)
  | false =>
    replace hF := ifB_f hF
    refine W.cond_false (by kernel_rfl) (by kernel_rfl) ?_
    refine W.skip (by kernel_rfl) ?_
    refine n2 ?_
    refine W.seqK (by kernel_rfl) (fun K7 n7 e7 r7 p7 => ?_)
    refine W.region (by kernel_rfl) ?_
    refine WL.val (d := (some 4)) (v := .int .i64 0) (h' := h) (by kernel_rfl) (by kernel_rfl) (by kernel_rfl) ?_
    refine WL.nil (by kernel_rfl) ?_
    refine Go.weaken (l' := [(0, t0), (4, .int .i64 0)]) (Fr.sub_cons (by kernel_rfl) (Fr.sub_cons (by kernel_rfl) (Fr.sub_nil _))) ?_
    refine n7 ?_
    refine W.seqK (by kernel_rfl) (fun K8 n8 e8 r8 p8 => ?_)
    refine W.seqK (by kernel_rfl) (fun K9 n9 e9 r9 p9 => ?_)
    refine W.region (by kernel_rfl) ?_
    refine WL.val (d := (some 5)) (v := .int .i64 0) (h' := h) (by kernel_rfl) (by kernel_rfl) (by kernel_rfl) ?_
    refine WL.nil (by kernel_rfl) ?_
    refine Go.weaken (l' := [(0, t0), (4, .int .i64 0), (5, .int .i64 0)]) (Fr.sub_cons (by kernel_rfl) (Fr.sub_cons (by kernel_rfl) (Fr.sub_cons (by kernel_rfl) (Fr.sub_nil _)))) ?_
    refine n9 ?_
    replace hF := lett_some hF; obtain ⟨k11, e11, hF⟩ := hF
    have J11 : ∀ (t4 : Int) (h_12 : AHeap), k11 t4 h_12 = some (rR, hR) → Go w0 m0 (Func.ntmps Try.f9) (K8 .normal) [(0, t0), (4, .int .i64 t4)] [] h_12 := by
      intro t4 h_12 hF
      rw [e11] at hF
      refine n8 ?_
      refine W.seqK (by kernel_rfl) (fun K13 n13 e13 r13 p13 => ?_)
      refine W.region (by kernel_rfl) ?_
      refine WL.val (d := (some 26)) (v := .int .i64 t4) (h' := h_12) (by kernel_rfl) (by kernel_rfl) (by kernel_rfl) ?_
      replace hF := outK_some hF; obtain ⟨v27, h_14, e15, hF⟩ := hF
      refine WL.val (d := (some 27)) (v := v27) (h' := h_14) (by kernel_rfl) (by kernel_rfl) (Eq.trans (by kernel_rfl) e15) ?_
      refine WL.val (d := (some 6)) (v := v27) (h' := h_14) (by kernel_rfl) (by kernel_rfl) (by kernel_rfl) ?_
      refine WL.nil (by kernel_rfl) ?_
      refine Go.weaken (l' := [(0, t0), (6, v27)]) (Fr.sub_cons (by kernel_rfl) (Fr.sub_cons (by kernel_rfl) (Fr.sub_nil _))) ?_
      refine n13 ?_
      refine W.seqK (by kernel_rfl) (fun K16 n16 e16 r16 p16 => ?_)
      refine W.seqK (by kernel_rfl) (fun K17 n17 e17 r17 p17 => ?_)
      refine W.region (by kernel_rfl) ?_
      refine WL.val (d := (some 7)) (v := .int .i64 0) (h' := h_14) (by kernel_rfl) (by kernel_rfl) (by kernel_rfl) ?_
      refine WL.nil (by kernel_rfl) ?_
      refine Go.weaken (l' := [(0, t0), (6, v27), (7, .int .i64 0)]) (Fr.sub_cons (by kernel_rfl) (Fr.sub_cons (by kernel_rfl) (Fr.sub_cons (by kernel_rfl) (Fr.sub_nil _)))) ?_
      refine n17 ?_
      replace hF := lett_some hF; obtain ⟨k19, e19, hF⟩ := hF
      have J19 : ∀ (t6 : AV) (h_20 : AHeap), k19 t6 h_20 = some (rR, hR) → Go w0 m0 (Func.ntmps Try.f9) (K16 .normal) [(6, t6)] [] h_20 := by
        intro t6 h_20 hF
        rw [e19] at hF
        refine n16 ?_
        refine W.seqK (by kernel_rfl) (fun K21 n21 e21 r21 p21 => ?_)
        refine W.region (by kernel_rfl) ?_
        refine WL.val (d := (some 40)) (v := t6) (h' := h_20) (by kernel_rfl) (by kernel_rfl) (by kernel_rfl) ?_
        replace hF := outK_some hF; obtain ⟨v41, h_22, e23, hF⟩ := hF
        replace hF := obind_some hF; obtain ⟨t41, c24, hF⟩ := hF
        have c24 := avStr_some c24
        subst c24
        refine WL.val (d := (some 41)) (v := strA t41) (h' := h_22) (by kernel_rfl) (by kernel_rfl) (Eq.trans (by kernel_rfl) e23) ?_
        refine WL.val (d := (some 2)) (v := strA t41) (h' := h_22) (by kernel_rfl) (by kernel_rfl) (by kernel_rfl) ?_
        refine WL.val (d := (some 3)) (v := .bool true) (h' := h_22) (by kernel_rfl) (by kernel_rfl) (by kernel_rfl) ?_
        refine WL.nil (by kernel_rfl) ?_
        refine Go.weaken (l' := [(2, strA t41), (3, .bool true)]) (Fr.sub_cons (by kernel_rfl) (Fr.sub_cons (by kernel_rfl) (Fr.sub_nil _))) ?_
        refine n21 ?_
        refine W.ret (by kernel_rfl) ?_
        obtain ⟨hF, hF2⟩ := ret_inj hF; subst hF; subst hF2
        exact leave_of (rs := [.tmp 2, .tmp 3]) (vs := [strA t41, .bool true]) (by kernel_rfl) (res_tmp (by kernel_rfl) (res_tmp (by kernel_rfl) res_nil)) (by kernel_rfl)
      refine W.blockK (by kernel_rfl) (fun K18 n18 s18 o18 r18 p18 => ?_)
      refine W.loopK (by kernel_rfl) (fun I25 K25 b25 n25 e25 r25 p25 => ?_)
      have L25 : ∀ (m : Nat) (t6_26 : AV) (t7 : Int) (h_27 : AHeap), law21_joined_L0 t0 k19 m t6_26 t7 h_27 = some (rR, hR) → Go w0 m0 (Func.ntmps Try.f9) I25 [(0, t0), (6, t6_26), (7, .int .i64 t7)] [] h_27 := by
        intro m
        induction m with
        | zero => intro t6_26 t7 h_27 hF; cases hF
        | succ m ih25 =>
          intro t6_26 t7 h_27 hF
          rw [law21_joined_L0_s] at hF; unfold law21_joined_L0b at hF
          refine b25 ?_
          refine W.seqK (by kernel_rfl) (fun K28 n28 e28 r28 p28 => ?_)
          refine W.seqK (by kernel_rfl) (fun K29 n29 e29 r29 p29 => ?_)
          refine W.region (by kernel_rfl) ?_
          refine WL.val (d := (some 28)) (v := .int .i64 t7) (h' := h_27) (by kernel_rfl) (by kernel_rfl) (by kernel_rfl) ?_
          refine WL.val (d := (some 29)) (v := t0) (h' := h_27) (by kernel_rfl) (by kernel_rfl) (by kernel_rfl) ?_
          replace hF := obind_some hF; obtain ⟨t30, e30, hF⟩ := hF
          refine WL.val (d := (some 30)) (v := .int .i64 t30) (h' := h_27) (by kernel_rfl) (by kernel_rfl) (Eq.trans (by kernel_rfl) (len_row (P := Try.prog) (h := h_27) (t := 22) (e' := 9) (by kernel_rfl) e30)) ?_
          replace hF := lett_some hF; obtain ⟨t31, e31, hF⟩ := hF
          refine WL.val (d := (some 31)) (v := .bool t31) (h' := h_27) (by kernel_rfl) (by kernel_rfl) (val_of AV.bool e31 (by kernel_rfl)) ?_
          refine WL.nil (by kernel_rfl) ?_
          refine Go.weaken (l' := [(0, t0), (6, t6_26), (7, .int .i64 t7), (31, .bool t31)]) (Fr.sub_cons (by kernel_rfl) (Fr.sub_cons (by kernel_rfl) (Fr.sub_cons (by kernel_rfl) (Fr.sub_cons (by kernel_rfl) (Fr.sub_nil _))))) ?_
          refine n29 ?_
          cases t31 with
          | true =>
            replace hF := ifB_t hF
            refine W.cond_true (by kernel_rfl) (by kernel_rfl) ?_
            refine W.skip (by kernel_rfl) ?_
            refine n28 ?_
            refine W.seqK (by kernel_rfl) (fun K32 n32 e32 r32 p32 => ?_)
            refine W.blockK (by kernel_rfl) (fun K33 n33 s33 o33 r33 p33 => ?_)
            refine W.region (by kernel_rfl) ?_
            refine WL.val (d := (some 34)) (v := t6_26) (h' := h_27) (by kernel_rfl) (by kernel_rfl) (by kernel_rfl) ?_
            refine WL.val (d := (some 35)) (v := t0) (h' := h_27) (by kernel_rfl) (by kernel_rfl) (by kernel_rfl) ?_
            refine WL.val (d := (some 36)) (v := .int .i64 t7) (h' := h_27) (by kernel_rfl) (by kernel_rfl) (by kernel_rfl) ?_
            replace hF := obind_some hF; obtain ⟨t37, e34, hF⟩ := hF
            refine WL.val (d := (some 37)) (v := t37) (h' := h_27) (by kernel_rfl) (by kernel_rfl) (Eq.trans (by kernel_rfl) (index_row (P := Try.prog) (h := h_27) (t := 22) (e' := 9) (k := .i64) (by kernel_rfl) (by kernel_rfl) (by kernel_rfl) e34)) ?_
            replace hF := obind_some hF; obtain ⟨v38, e35, hF⟩ := hF
            replace hF := obind_some hF; obtain ⟨t38, c36, hF⟩ := hF
            have c36 := avStr_some c36
            subst c36
            refine WL.val (d := (some 38)) (v := strA t38) (h' := h_27) (by kernel_rfl) (by kernel_rfl) (Eq.trans (by kernel_rfl) (load_cell (P := Try.prog) (h := h_27) (t := 9) (by kernel_rfl) e35)) ?_
            replace hF := outK_some hF; obtain ⟨v39, h_37, e38, hF⟩ := hF
            refine WL.val (d := (some 39)) (v := v39) (h' := h_37) (by kernel_rfl) (by kernel_rfl) (Eq.trans (by kernel_rfl) e38) ?_
            refine WL.val (d := (some 6)) (v := v39) (h' := h_37) (by kernel_rfl) (by kernel_rfl) (by kernel_rfl) ?_
            refine WL.nil (by kernel_rfl) ?_
            refine Go.weaken (l' := [(0, t0), (6, v39), (7, .int .i64 t7)]) (Fr.sub_cons (by kernel_rfl) (Fr.sub_cons (by kernel_rfl) (Fr.sub_cons (by kernel_rfl) (Fr.sub_nil _)))) ?_
            refine n33 ?_
            refine n32 ?_
            refine W.region (by kernel_rfl) ?_
            refine WL.val (d := (some 32)) (v := .int .i64 t7) (h' := h_37) (by kernel_rfl) (by kernel_rfl) (by kernel_rfl) ?_
            replace hF := lett_some hF; obtain ⟨t33, e39, hF⟩ := hF
            refine WL.val (d := (some 33)) (v := .int .i64 t33) (h' := h_37) (by kernel_rfl) (by kernel_rfl) (val_of (AV.int .i64) e39 (by kernel_rfl)) ?_
            refine WL.val (d := (some 7)) (v := .int .i64 t33) (h' := h_37) (by kernel_rfl) (by kernel_rfl) (by kernel_rfl) ?_
            refine WL.nil (by kernel_rfl) ?_
            refine Go.weaken (l' := [(0, t0), (6, v39), (7, .int .i64 t33)]) (Fr.sub_cons (by kernel_rfl) (Fr.sub_cons (by kernel_rfl) (Fr.sub_cons (by kernel_rfl) (Fr.sub_nil _)))) ?_
            refine n25 ?_
            exact Go.weaken (Fr.sub_cons (by kernel_rfl) (Fr.sub_cons (by kernel_rfl) (Fr.sub_cons (by kernel_rfl) (Fr.sub_nil _)))) (ih25 _ _ _ hF)
          | false =>
            replace hF := ifB_f hF
            refine W.cond_false (by kernel_rfl) (by kernel_rfl) ?_
            refine W.exit (by kernel_rfl) ?_
            refine e28 ?_
            refine e25 ?_
            refine s18 (by kernel_rfl) ?_
            exact Go.weaken (Fr.sub_cons (by kernel_rfl) (Fr.sub_nil _)) (J19 _ _ hF)
      exact Go.weaken (Fr.sub_cons (by kernel_rfl) (Fr.sub_cons (by kernel_rfl) (Fr.sub_cons (by kernel_rfl) (Fr.sub_nil _)))) (L25 _ _ _ _ hF)
    refine W.blockK (by kernel_rfl) (fun K10 n10 s10 o10 r10 p10 => ?_)
    refine W.loopK (by kernel_rfl) (fun I40 K40 b40 n40 e40 r40 p40 => ?_)
    have L40 : ∀ (m : Nat) (t4_41 : Int) (t5 : Int) (h_42 : AHeap), law21_joined_L1 t0 k11 m t4_41 t5 h_42 = some (rR, hR) → Go w0 m0 (Func.ntmps Try.f9) I40 [(0, t0), (4, .int .i64 t4_41), (5, .int .i64 t5)] [] h_42 := by
      intro m
      induction m with
      | zero => intro t4_41 t5 h_42 hF; cases hF
      | succ m ih40 =>
        intro t4_41 t5 h_42 hF
        rw [law21_joined_L1_s] at hF; unfold law21_joined_L1b at hF
        refine b40 ?_
        refine W.seqK (by kernel_rfl) (fun K43 n43 e43 r43 p43 => ?_)
        refine W.seqK (by kernel_rfl) (fun K44 n44 e44 r44 p44 => ?_)
        refine W.region (by kernel_rfl) ?_
        refine WL.val (d := (some 11)) (v := .int .i64 t5) (h' := h_42) (by kernel_rfl) (by kernel_rfl) (by kernel_rfl) ?_
        refine WL.val (d := (some 12)) (v := t0) (h' := h_42) (by kernel_rfl) (by kernel_rfl) (by kernel_rfl) ?_
        replace hF := obind_some hF; obtain ⟨t13, e45, hF⟩ := hF
        refine WL.val (d := (some 13)) (v := .int .i64 t13) (h' := h_42) (by kernel_rfl) (by kernel_rfl) (Eq.trans (by kernel_rfl) (len_row (P := Try.prog) (h := h_42) (t := 22) (e' := 9) (by kernel_rfl) e45)) ?_
        replace hF := lett_some hF; obtain ⟨t14, e46, hF⟩ := hF
        refine WL.val (d := (some 14)) (v := .bool t14) (h' := h_42) (by kernel_rfl) (by kernel_rfl) (val_of AV.bool e46 (by kernel_rfl)) ?_
        refine WL.nil (by kernel_rfl) ?_
        refine Go.weaken (l' := [(0, t0), (4, .int .i64 t4_41), (5, .int .i64 t5), (14, .bool t14)]) (Fr.sub_cons (by kernel_rfl) (Fr.sub_cons (by kernel_rfl) (Fr.sub_cons (by kernel_rfl) (Fr.sub_cons (by kernel_rfl) (Fr.sub_nil _))))) ?_
        refine n44 ?_
        cases t14 with
        | true =>
          replace hF := ifB_t hF
          refine W.cond_true (by kernel_rfl) (by kernel_rfl) ?_
          refine W.skip (by kernel_rfl) ?_
          refine n43 ?_
          refine W.seqK (by kernel_rfl) (fun K47 n47 e47 r47 p47 => ?_)
          refine W.blockK (by kernel_rfl) (fun K48 n48 s48 o48 r48 p48 => ?_)
          refine W.seqK (by kernel_rfl) (fun K49 n49 e49 r49 p49 => ?_)
          refine W.region (by kernel_rfl) ?_
          refine WL.val (d := (some 17)) (v := .int .i64 t4_41) (h' := h_42) (by kernel_rfl) (by kernel_rfl) (by kernel_rfl) ?_
          refine WL.val (d := (some 18)) (v := t0) (h' := h_42) (by kernel_rfl) (by kernel_rfl) (by kernel_rfl) ?_
          refine WL.val (d := (some 19)) (v := .int .i64 t5) (h' := h_42) (by kernel_rfl) (by kernel_rfl) (by kernel_rfl) ?_
          replace hF := obind_some hF; obtain ⟨t20, e50, hF⟩ := hF
          refine WL.val (d := (some 20)) (v := t20) (h' := h_42) (by kernel_rfl) (by kernel_rfl) (Eq.trans (by kernel_rfl) (index_row (P := Try.prog) (h := h_42) (t := 22) (e' := 9) (k := .i64) (by kernel_rfl) (by kernel_rfl) (by kernel_rfl) e50)) ?_
          replace hF := obind_some hF; obtain ⟨v21, e51, hF⟩ := hF
          replace hF := obind_some hF; obtain ⟨t21, c52, hF⟩ := hF
          have c52 := avStr_some c52
          subst c52
          refine WL.val (d := (some 21)) (v := strA t21) (h' := h_42) (by kernel_rfl) (by kernel_rfl) (Eq.trans (by kernel_rfl) (load_cell (P := Try.prog) (h := h_42) (t := 9) (by kernel_rfl) e51)) ?_
          refine WL.val (d := (some 22)) (v := .int .i64 (lenS t21)) (h' := h_42) (by kernel_rfl) (by kernel_rfl) (by kernel_rfl) ?_
          replace hF := lett_some hF; obtain ⟨t23, e53, hF⟩ := hF
          refine WL.val (d := (some 23)) (v := .int .i64 t23) (h' := h_42) (by kernel_rfl) (by kernel_rfl) (val_of (AV.int .i64) e53 (by kernel_rfl)) ?_
          refine WL.val (d := (some 4)) (v := .int .i64 t23) (h' := h_42) (by kernel_rfl) (by kernel_rfl) (by kernel_rfl) ?_
          refine WL.nil (by kernel_rfl) ?_
          refine Go.weaken (l' := [(0, t0), (4, .int .i64 t23), (5, .int .i64 t5)]) (Fr.sub_cons (by kernel_rfl) (Fr.sub_cons (by kernel_rfl) (Fr.sub_cons (by kernel_rfl) (Fr.sub_nil _)))) ?_
          refine n49 ?_
          refine W.seqK (by kernel_rfl) (fun K54 n54 e54 r54 p54 => ?_)
          refine W.region (by kernel_rfl) ?_
          refine WL.val (d := (some 24)) (v := .int .i64 t23) (h' := h_42) (by kernel_rfl) (by kernel_rfl) (by kernel_rfl) ?_
          replace hF := lett_some hF; obtain ⟨t25, e55, hF⟩ := hF
          refine WL.val (d := (some 25)) (v := .bool t25) (h' := h_42) (by kernel_rfl) (by kernel_rfl) (val_of AV.bool e55 (by kernel_rfl)) ?_
          refine WL.nil (by kernel_rfl) ?_
          refine Go.weaken (l' := [(0, t0), (4, .int .i64 t23), (5, .int .i64 t5), (25, .bool t25)]) (Fr.sub_cons (by kernel_rfl) (Fr.sub_cons (by kernel_rfl) (Fr.sub_cons (by kernel_rfl) (Fr.sub_cons (by kernel_rfl) (Fr.sub_nil _))))) ?_
          refine n54 ?_
          cases t25 with
          | true =>
            replace hF := ifB_t hF
            refine W.cond_true (by kernel_rfl) (by kernel_rfl) ?_
            refine W.seqK (by kernel_rfl) (fun K56 n56 e56 r56 p56 => ?_)
            refine W.region (by kernel_rfl) ?_
            refine WL.val (d := (some 2)) (v := strA ([] : Bytes)) (h' := h_42) (by kernel_rfl) (by kernel_rfl) (by kernel_rfl) ?_
            refine WL.val (d := (some 3)) (v := .bool false) (h' := h_42) (by kernel_rfl) (by kernel_rfl) (by kernel_rfl) ?_
            refine WL.nil (by kernel_rfl) ?_
            refine Go.weaken (l' := [(2, strA ([] : Bytes)), (3, .bool false)]) (Fr.sub_cons (by kernel_rfl) (Fr.sub_cons (by kernel_rfl) (Fr.sub_nil _))) ?_
            refine n56 ?_
            refine W.ret (by kernel_rfl) ?_
            refine r48 ?_
            refine r47 ?_
            refine r40 ?_
            refine r10 ?_
            refine r8 ?_
            obtain ⟨hF, hF2⟩ := ret_inj hF; subst hF; subst hF2
            exact leave_of (rs := [.tmp 2, .tmp 3]) (vs := [strA ([] : Bytes), .bool false]) (by kernel_rfl) (res_tmp (by kernel_rfl) (res_tmp (by kernel_rfl) res_nil)) (by kernel_rfl)
          | false =>
            replace hF := ifB_f hF
            refine W.cond_false (by kernel_rfl) (by kernel_rfl) ?_
            refine W.skip (by kernel_rfl) ?_
            refine n48 ?_
            refine n47 ?_
            refine W.region (by kernel_rfl) ?_
            refine WL.val (d := (some 15)) (v := .int .i64 t5) (h' := h_42) (by kernel_rfl) (by kernel_rfl) (by kernel_rfl) ?_
            replace hF := lett_some hF; obtain ⟨t16, e57, hF⟩ := hF
            refine WL.val (d := (some 16)) (v := .int .i64 t16) (h' := h_42) (by kernel_rfl) (by kernel_rfl) (val_of (AV.int .i64) e57 (by kernel_rfl)) ?_
            refine WL.val (d := (some 5)) (v := .int .i64 t16) (h' := h_42) (by kernel_rfl) (by kernel_rfl) (by kernel_rfl) ?_
            refine WL.nil (by kernel_rfl) ?_
            refine Go.weaken (l' := [(0, t0), (4, .int .i64 t23), (5, .int .i64 t16)]) (Fr.sub_cons (by kernel_rfl) (Fr.sub_cons (by kernel_rfl) (Fr.sub_cons (by kernel_rfl) (Fr.sub_nil _)))) ?_
            refine n40 ?_
            exact Go.weaken (Fr.sub_cons (by kernel_rfl) (Fr.sub_cons (by kernel_rfl) (Fr.sub_cons (by kernel_rfl) (Fr.sub_nil _)))) (ih40 _ _ _ hF)
        | false =>
          replace hF := ifB_f hF
          refine W.cond_false (by kernel_rfl) (by kernel_rfl) ?_
          refine W.exit (by kernel_rfl) ?_
          refine e43 ?_
          refine e40 ?_
          refine s10 (by kernel_rfl) ?_
          exact Go.weaken (Fr.sub_cons (by kernel_rfl) (Fr.sub_cons (by kernel_rfl) (Fr.sub_nil _))) (J11 _ _ hF)
    exact Go.weaken (Fr.sub_cons (by kernel_rfl) (Fr.sub_cons (by kernel_rfl) (Fr.sub_cons (by kernel_rfl) (Fr.sub_nil _)))) (L40 _ _ _ _ hF)
noncomputable def law21_joined_fn (call : CallF) (n : Nat) : FnT := fun args h => match args with
  | [x0] => law21_joined call n x0 h
  | _ => none
set_option maxRecDepth 100000 in
theorem law21_joined_fn_eq (call : CallF) (n : Nat) (t0 : AV) (h : AHeap) : law21_joined_fn call n [t0] h = law21_joined call n t0 h :=
  rfl
theorem law21_joined_holds {call : CallF} (hc : SaysAll Try.prog call) (n : Nat) : Holds Try.prog 9 (law21_joined_fn call n) := by
  intro args h r h2 e
  unfold law21_joined_fn at e
  split at e
  · exact law21_joined_ok hc e
  · cases e

noncomputable def law21_filled_L0b (call : CallF) (t1 : AV) (v11 : AV) (k18 : AHeap → R) (self : Int → AHeap → R) (t7 : Int) (h_22 : AHeap) : R :=
  obind (lenL t1) fun t21 =>
  lett (decide (t7 < t21)) fun (t22 : Bool) =>
  ifB t22
  (
    obind (idxP 1 t1 t7) fun t28 =>
    obind (ldCell h_22 t28) fun v29 =>
    obind (avStr v29) fun t29 =>
    callN (call 18 [v11, strA t29] h_22) fun _ h_32 =>
    lett (IntKind.i64.wrap (t7 + 1)) fun (t24 : Int) =>
    self t24 h_32)
  (
    k18 h_22)
noncomputable def law21_filled_L0 (call : CallF) (t1 : AV) (v11 : AV) (k18 : AHeap → R) : Nat → Int → AHeap → R := iterR (fun _ _ => none) (law21_filled_L0b call t1 v11 k18)
theorem law21_filled_L0_s (call : CallF) (t1 : AV) (v11 : AV) (k18 : AHeap → R) (m : Nat) : law21_filled_L0 call t1 v11 k18 (m + 1) = law21_filled_L0b call t1 v11 k18 (law21_filled_L0 call t1 v11 k18 m) := rfl
noncomputable def law21_filled (call : CallF) (n : Nat) (t0 : Int) (t1 : AV) (h : AHeap) : R :=
  callN (call 10 [.int .i64 t0] h) fun r10 h_3 =>
  obind (extT 0 r10) fun v11 =>
  obind (extT 1 r10) fun v12 =>
  obind (avInt .i64 v12) fun t12 =>
  lett ((t12 : Int) != 0) fun (t14 : Bool) =>
  lett (fun (t18 : Bool) (h_11 : AHeap) =>
    ifB t18
    (
      some (.ret (AV.nilp), h_11))
    (
      lett (fun  (h_19 : AHeap) =>
        some (.ret (v11), h_19)) fun k18 =>
      law21_filled_L0 call t1 v11 k18 n 0 h_11)) fun j18 =>
  ifB t14
  (
    j18 true h_3)
  (
    outK (opBin Try.prog h_3 .eql 26 true (some v11) (some AV.nilp)) fun v17 h_35 =>
    obind (avBool v17) fun t17 =>
    j18 t17 h_35)
set_option maxHeartbeats 4000000 in
set_option maxRecDepth 20000 in
theorem law21_filled_ok {call : CallF} (hc : SaysAll Try.prog call) {n : Nat} {t0 : Int} {t1 : AV} {h : AHeap} {rR : ARes} {hR : AHeap} (hF : law21_filled call n t0 t1 h = some (rR, hR)) : Says Try.prog 11 [.int .i64 t0, t1] h rR hR := by
  unfold law21_filled at hF
  refine says_of (fn := Try.f11) Try.func11 (c := codeOf Try.f11) (by kernel_rfl) (by kernel_rfl) (fun w0 m0 => ?_)
  refine W.weaken (l' := [(0, .int .i64 t0), (1, t1)]) (Fr.sub_cons (by kernel_rfl) (Fr.sub_cons (by kernel_rfl) (Fr.sub_nil _))) ?_
  refine W.seqK (by kernel_rfl) (fun K1 n1 e1 r1 p1 => ?_)
  refine W.region (by kernel_rfl) ?_
  refine WL.val (d := (some 4)) (v := AV.nilp) (h' := h) (by kernel_rfl) (by kernel_rfl) (by kernel_rfl) ?_
  refine WL.nil (by kernel_rfl) ?_
  refine Go.weaken (l' := [(0, .int .i64 t0), (1, t1)]) (Fr.sub_cons (by kernel_rfl) (Fr.sub_cons (by kernel_rfl) (Fr.sub_nil _))) ?_
  refine n1 ?_
  refine W.seqK (by kernel_rfl) (fun K2 n2 e2 r2 p2 => ?_)
  refine W.region (by kernel_rfl) ?_
  refine WL.val (d := (some 9)) (v := .int .i64 t0) (h' := h) (by kernel_rfl) (by kernel_rfl) (by kernel_rfl) ?_
  replace hF := callN_some hF; obtain ⟨r10, h_3, e4, hF⟩ := hF
  refine WL.call (hc.ok w0) (d := (some 10)) (by kernel_rfl) (by kernel_rfl) (by kernel_rfl) e4 ?_
  refine WL.val (d := (some 8)) (v := r10) (h' := h_3) (by kernel_rfl) (by kernel_rfl) (by kernel_rfl) ?_
  replace hF := obind_some hF; obtain ⟨v11, e5, hF⟩ := hF
  refine WL.val (d := (some 11)) (v := v11) (h' := h_3) (by kernel_rfl) (by kernel_rfl) (Eq.trans (by kernel_rfl) (extract_tup (h := h_3) e5)) ?_
  replace hF := obind_some hF; obtain ⟨v12, e6, hF⟩ := hF
  replace hF := obind_some hF; obtain ⟨t12, c7, hF⟩ := hF
  have c7 := avInt_some c7
  subst c7
  refine WL.val (d := (some 12)) (v := .int .i64 t12) (h' := h_3) (by kernel_rfl) (by kernel_rfl) (Eq.trans (by kernel_rfl) (extract_tup (h := h_3) e6)) ?_
  refine WL.val (d := (some 5)) (v := v11) (h' := h_3) (by kernel_rfl) (by kernel_rfl) (by kernel_rfl) ?_
  refine WL.val (d := (some 6)) (v := .int .i64 t12) (h' := h_3) (by kernel_rfl) (by kernel_rfl) (by kernel_rfl) ?_
  refine WL.nil (by kernel_rfl) ?_
  refine Go.weaken (l' := [(1, t1), (5, v11), (6, .int .i64 t12)]) (Fr.sub_cons (by kernel_rfl) (Fr.sub_cons (by kernel_rfl) (Fr.sub_cons (by kernel_rfl) (Fr.sub_nil _)))) ?_
  refine n2 ?_
  refine W.seqK (by kernel_rfl) (fun K8 n8 e8 r8 p8 => ?_)
  refine W.seqK (by kernel_rfl) (fun K9 n9 e9 r9 p9 => ?_)
  refine W.region (by kernel_rfl) ?_
  refine WL.val (d := (some 13)) (v := .int .i64 t12) (h' := h_3) (by kernel_rfl) (by kernel_rfl) (by kernel_rfl) ?_
  replace hF := lett_some hF; obtain ⟨t14, e10, hF⟩ := hF
  refine WL.val (d := (some 14)) (v := .bool t14) (h' := h_3) (by kernel_rfl) (by kernel_rfl) (val_of AV.bool e10 (by kernel_rfl)) ?_
  refine WL.val (d := (some 15)) (v := .bool t14) (h' := h_3) (by kernel_rfl) (by kernel_rfl) (by kernel_rfl) ?_
  replace hF := lett_some hF; obtain ⟨j18, e12, hF⟩ := hF
  have J13 : ∀ (t18 : Bool) (h_11 : AHeap), j18 t18 h_11 = some (rR, hR) → WL Try.prog w0 m0 (Func.ntmps Try.f11) (Code.ops (Code.p1 (Code.p1 (Code.p2 (Code.p2 (codeOf Try.f11)))))) 6 K9 [(1, t1), (5, v11), (18, .bool t18)] [] h_11 := by
    intro t18 h_11 hF
    rw [e12] at hF
    refine WL.nil (by kernel_rfl) ?_
    refine Go.weaken (l' := [(1, t1), (5, v11), (18, .bool t18)]) (Fr.sub_cons (by kernel_rfl) (Fr.sub_cons (by kernel_rfl) (Fr.sub_cons (by kernel_rfl) (Fr.sub_nil _)))) ?_
    refine n9 ?_
    cases t18 with
    | true =>
      replace hF := ifB_t hF
      refine W.cond_true (by kernel_rfl) (by kernel_rfl) ?_
      refine W.seqK (by kernel_rfl) (fun K14 n14 e14 r14 p14 => ?_)
      refine W.region (by kernel_rfl) ?_
      refine WL.val (d := (some 4)) (v := AV.nilp) (h' := h_11) (by kernel_rfl) (by kernel_rfl) (by kernel_rfl) ?_
      refine WL.nil (by kernel_rfl) ?_
      refine Go.weaken (l' := [(4, AV.nilp)]) (Fr.sub_cons (by kernel_rfl) (Fr.sub_nil _)) ?_
      refine n14 ?_
      refine W.ret (by kernel_rfl) ?_
      refine r8 ?_
      obtain ⟨hF, hF2⟩ := ret_inj hF; subst hF; subst hF2
      exact leave_of (rs := [.tmp 4]) (vs := [AV.nilp]) (by kernel_rfl) (res_tmp (by kernel_rfl) res_nil) (by kernel_rfl)
    | false =>
      replace hF := ifB_f hF
      refine W.cond_false (by kernel_rfl) (by kernel_rfl) ?_
      refine W.skip (by kernel_rfl) ?_
      refine n8 ?_
      refine W.seqK (by kernel_rfl) (fun K15 n15 e15 r15 p15 => ?_)
      refine W.seqK (by kernel_rfl) (fun K16 n16 e16 r16 p16 => ?_)
      refine W.region (by kernel_rfl) ?_
      refine WL.val (d := (some 7)) (v := .int .i64 0) (h' := h_11) (by kernel_rfl) (by kernel_rfl) (by kernel_rfl) ?_
      refine WL.nil (by kernel_rfl) ?_
      refine Go.weaken (l' := [(1, t1), (5, v11), (7, .int .i64 0)]) (Fr.sub_cons (by kernel_rfl) (Fr.sub_cons (by kernel_rfl) (Fr.sub_cons (by kernel_rfl) (Fr.sub_nil _)))) ?_
      refine n16 ?_
      replace hF := lett_some hF; obtain ⟨k18, e18, hF⟩ := hF
      have J18 : ∀  (h_19 : AHeap), k18 h_19 = some (rR, hR) → Go w0 m0 (Func.ntmps Try.f11) (K15 .normal) [(5, v11)] [] h_19 := by
        intro  h_19 hF
        rw [e18] at hF
        refine n15 ?_
        refine W.seqK (by kernel_rfl) (fun K20 n20 e20 r20 p20 => ?_)
        refine W.region (by kernel_rfl) ?_
        refine WL.val (d := (some 31)) (v := v11) (h' := h_19) (by kernel_rfl) (by kernel_rfl) (by kernel_rfl) ?_
        refine WL.val (d := (some 4)) (v := v11) (h' := h_19) (by kernel_rfl) (by kernel_rfl) (by kernel_rfl) ?_
        refine WL.nil (by kernel_rfl) ?_
        refine Go.weaken (l' := [(4, v11)]) (Fr.sub_cons (by kernel_rfl) (Fr.sub_nil _)) ?_
        refine n20 ?_
        refine W.ret (by kernel_rfl) ?_
        obtain ⟨hF, hF2⟩ := ret_inj hF; subst hF; subst hF2
        exact leave_of (rs := [.tmp 4]) (vs := [v11]) (by kernel_rfl) (res_tmp (by kernel_rfl) res_nil) (by kernel_rfl)
      refine W.blockK (by kernel_rfl) (fun K17 n17 s17 o17 r17 p17 => ?_)
      refine W.loopK (by kernel_rfl) (fun I21 K21 b21 n21 e21 r21 p21 => ?_)
      have L21 : ∀ (m : Nat) (t7 : Int) (h_22 : AHeap), law21_filled_L0 call t1 v11 k18 m t7 h_22 = some (rR, hR) → Go w0 m0 (Func.ntmps Try.f11) I21 [(1, t1), (5, v11), (7, .int .i64 t7)] [] h_22 := by
        intro m
        induction m with
        | zero => intro t7 h_22 hF; cases hF
        | succ m ih21 =>
          intro t7 h_22 hF
          rw [law21_filled_L0_s] at hF; unfold law21_filled_L0b at hF
          refine b21 ?_
          refine W.seqK (by kernel_rfl) (fun K23 n23 e23 r23 p23 => ?_)
          refine W.seqK (by kernel_rfl) (fun K24 n24 e24 r24 p24 => ?_)
          refine W.region (by kernel_rfl) ?_
          refine WL.val (d := (some 19)) (v := .int .i64 t7) (h' := h_22) (by kernel_rfl) (by kernel_rfl) (by kernel_rfl) ?_
          refine WL.val (d := (some 20)) (v := t1) (h' := h_22) (by kernel_rfl) (by kernel_rfl) (by kernel_rfl) ?_
          replace hF := obind_some hF; obtain ⟨t21, e25, hF⟩ := hF
          refine WL.val (d := (some 21)) (v := .int .i64 t21) (h' := h_22) (by kernel_rfl) (by kernel_rfl) (Eq.trans (by kernel_rfl) (len_row (P := Try.prog) (h := h_22) (t := 22) (e' := 9) (by kernel_rfl) e25)) ?_
          replace hF := lett_some hF; obtain ⟨t22, e26, hF⟩ := hF
          refine WL.val (d := (some 22)) (v := .bool t22) (h' := h_22) (by kernel_rfl) (by kernel_rfl) (val_of AV.bool e26 (by kernel_rfl)) ?_
          refine WL.nil (by kernel_rfl) ?_
          refine Go.weaken (l' := [(1, t1), (5, v11), (7, .int .i64 t7), (22, .bool t22)]) (Fr.sub_cons (by kernel_rfl) (Fr.sub_cons (by kernel_rfl) (Fr.sub_cons (by kernel_rfl) (Fr.sub_cons (by kernel_rfl) (Fr.sub_nil _))))) ?_
          refine n24 ?_
          cases t22 with
          | true =>
            replace hF := ifB_t hF
            refine W.cond_true (by kernel_rfl) (by kernel_rfl) ?_
            refine W.skip (by kernel_rfl) ?_
            refine n23 ?_
            refine W.seqK (by kernel_rfl) (fun K27 n27 e27 r27 p27 => ?_)
            refine W.blockK (by kernel_rfl) (fun K28 n28 s28 o28 r28 p28 => ?_)
            refine W.region (by kernel_rfl) ?_
            refine WL.val (d := (some 25)) (v := v11) (h' := h_22) (by kernel_rfl) (by kernel_rfl) (by kernel_rfl) ?_
            refine WL.val (d := (some 26)) (v := t1) (h' := h_22) (by kernel_rfl) (by kernel_rfl) (by kernel_rfl) ?_
            refine WL.val (d := (some 27)) (v := .int .i64 t7) (h' := h_22) (by kernel_rfl) (by kernel_rfl) (by kernel_rfl) ?_
            replace hF := obind_some hF; obtain ⟨t28, e29, hF⟩ := hF
            refine WL.val (d := (some 28)) (v := t28) (h' := h_22) (by kernel_rfl) (by kernel_rfl) (Eq.trans (by kernel_rfl) (index_row (P := Try.prog) (h := h_22) (t := 22) (e' := 9) (k := .i64) (by kernel_rfl) (by kernel_rfl) (by kernel_rfl) e29)) ?_
            replace hF := obind_some hF; obtain ⟨v29, e30, hF⟩ := hF
            replace hF := obind_some hF; obtain ⟨t29, c31, hF⟩ := hF
            have c31 := avStr_some c31
            subst c31
            refine WL.val (d := (some 29)) (v := strA t29) (h' := h_22) (by kernel_rfl) (by kernel_rfl) (Eq.trans (by kernel_rfl) (load_cell (P := Try.prog) (h := h_22) (t := 9) (by kernel_rfl) e30)) ?_
            replace hF := callN_some hF; obtain ⟨r30, h_32, e33, hF⟩ := hF
            refine WL.call (hc.ok w0) (d := (some 30)) (by kernel_rfl) (by kernel_rfl) (by kernel_rfl) e33 ?_
            refine WL.nil (by kernel_rfl) ?_
            refine Go.weaken (l' := [(1, t1), (5, v11), (7, .int .i64 t7)]) (Fr.sub_cons (by kernel_rfl) (Fr.sub_cons (by kernel_rfl) (Fr.sub_cons (by kernel_rfl) (Fr.sub_nil _)))) ?_
            refine n28 ?_
            refine n27 ?_
            refine W.region (by kernel_rfl) ?_
            refine WL.val (d := (some 23)) (v := .int .i64 t7) (h' := h_32) (by kernel_rfl) (by kernel_rfl) (by kernel_rfl) ?_
            replace hF := lett_some hF; obtain ⟨t24, e34, hF⟩ := hF
            refine WL.val (d := (some 24)) (v := .int .i64 t24) (h' := h_32) (by kernel_rfl) (by kernel_rfl) (val_of (AV.int .i64) e34 (by kernel_rfl)) ?_
            refine WL.val (d := (some 7)) (v := .int .i64 t24) (h' := h_32) (by kernel_rfl) (by kernel_rfl) (by kernel_rfl) ?_
            refine WL.nil (by kernel_rfl) ?_
            refine Go.weaken (l' := [(1, t1), (5, v11), (7, .int .i64 t24)]) (Fr.sub_cons (by kernel_rfl) (Fr.sub_cons (by kernel_rfl) (Fr.sub_cons (by kernel_rfl) (Fr.sub_nil _)))) ?_
            refine n21 ?_
            exact Go.weaken (Fr.sub_cons (by kernel_rfl) (Fr.sub_cons (by kernel_rfl) (Fr.sub_cons (by kernel_rfl) (Fr.sub_nil _)))) (ih21 _ _ hF)
          | false =>
            replace hF := ifB_f hF
            refine W.cond_false (by kernel_rfl) (by kernel_rfl) ?_
            refine W.exit (by kernel_rfl) ?_
            refine e23 ?_
            refine e21 ?_
            refine s17 (by kernel_rfl) ?_
            exact Go.weaken (Fr.sub_cons (by kernel_rfl) (Fr.sub_nil _)) (J18 _ hF)
      exact Go.weaken (Fr.sub_cons (by kernel_rfl) (Fr.sub_cons (by kernel_rfl) (Fr.sub_cons (by kernel_rfl) (Fr.sub_nil _)))) (L21 _ _ _ hF)
  cases t14 with
  | true =>
    replace hF := ifB_t hF
    refine WL.not (d := (some 16)) (by kernel_rfl) (by kernel_rfl) ?_
    refine WL.not (d := (some 17)) (by kernel_rfl) (by kernel_rfl) ?_
    refine WL.val (d := (some 18)) (v := .bool true) (h' := h_3) (by kernel_rfl) (by kernel_rfl) (by kernel_rfl) ?_
    exact WL.weaken (Fr.sub_cons (by kernel_rfl) (Fr.sub_cons (by kernel_rfl) (Fr.sub_cons (by kernel_rfl) (Fr.sub_nil _)))) (J13 _ _ hF)
  | false =>
    replace hF := ifB_f hF
    refine WL.val (d := (some 16)) (v := v11) (h' := h_3) (by kernel_rfl) (by kernel_rfl) (by kernel_rfl) ?_
    replace hF := outK_some hF; obtain ⟨v17, h_35, e36, hF⟩ := hF
    replace hF := obind_some hF; obtain ⟨t17, c37, hF⟩ := hF
    have c37 := avBool_some c37
    subst c37
    refine WL.val (d := (some 17)) (v := .bool t17) (h' := h_35) (by kernel_rfl) (by kernel_rfl) (Eq.trans (by kernel_rfl) e36) ?_
    refine WL.val (d := (some 18)) (v := .bool t17) (h' := h_35) (by kernel_rfl) (by kernel_rfl) (by kernel_rfl) ?_
    exact WL.weaken (Fr.sub_cons (by kernel_rfl) (Fr.sub_cons (by kernel_rfl) (Fr.sub_cons (by kernel_rfl) (Fr.sub_nil _)))) (J13 _ _ hF)
noncomputable def law21_filled_fn (call : CallF) (n : Nat) : FnT := fun args h => match args with
  | [x0, x1] => obind (avInt .i64 x0) fun t0 => law21_filled call n t0 x1 h
  | _ => none
set_option maxRecDepth 100000 in
theorem law21_filled_fn_eq (call : CallF) (n : Nat) (t0 : Int) (t1 : AV) (h : AHeap) : law21_filled_fn call n [.int .i64 t0, t1] h = law21_filled call n t0 t1 h :=
  (Eq.trans (obind_eq (fun t0 => law21_filled call n t0 t1 h) (avInt_int .i64 t0)) rfl)
theorem law21_filled_holds {call : CallF} (hc : SaysAll Try.prog call) (n : Nat) : Holds Try.prog 11 (law21_filled_fn call n) := by
  intro args h r h2 e
  unfold law21_filled_fn at e
  split at e
  · replace e := obind_some e; obtain ⟨t0, c0, e⟩ := e; have c0 := avInt_some c0; subst c0
    exact law21_filled_ok hc e
  · cases e

end Go.Proofs.Ytbihkjbhmiemhaa
