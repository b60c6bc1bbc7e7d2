/- Plain functions in place of the program's, and that their calls come to what they say. -/
import Derived.Test.YtpjnjdplgigmpaaFrame
import Derived.Test.YtpjnjdplgigmpaaAbs34
namespace Go.Proofs.Ytpjnjdplgigmpaa
open Go.RowKit Abs

noncomputable def law17_MessageAbove (call : CallF) (_ : Nat) (t0 : List AV) (t1 : List AV) (t2 : List AV) (h : AHeap) : R :=
  outK (opBox h 28 (some (.agg t0))) fun v3 h_2 =>
  outK (opBox h_2 28 (some (.agg t1))) fun v4 h_4 =>
  outK (opBox h_4 28 (some (.agg t2))) fun v5 h_6 =>
  callN (call 8 [] h_6) fun r9 h_10 =>
  obind (avBool r9) fun t9 =>
  lett (!t9) fun (t10 : Bool) =>
  ifB t10
  (
    some (.ret (.bool false), h_10))
  (
    obind (ldRow h_10 2 v3) fun t11 =>
    obind (ldRow h_10 2 v4) fun t12 =>
    obind (ldRow h_10 2 v4) fun t14 =>
    obind (ldRow h_10 2 v3) fun t15 =>
    callN (call 13 [.agg t11, .agg t12] h_10) fun r13 h_20 =>
    obind (avBool r13) fun t13 =>
    chk (reLoad Try.prog h_20 28 v3 (.agg t15) && (reLoad Try.prog h_20 28 v4 (.agg t14) && (true && (true && true)))) <|
    callN (call 13 [.agg t14, .agg t15] h_20) fun r16 h_24 =>
    obind (avBool r16) fun t16 =>
    lett (fun (t20 : Bool) (h_29 : AHeap) =>
      lett (fun (t30 : Bool) (h_32 : AHeap) =>
        lett (fun (t35 : Bool) (h_35 : AHeap) =>
          ifB t35
          (
            some (.ret (.bool false), h_35))
          (
            obind (fldP 0 v3) fun t36 =>
            obind (ldCell h_35 t36) fun v37 =>
            obind (avInt .i64 v37) fun t37 =>
            obind (fldP 0 v4) fun t38 =>
            obind (ldCell h_35 t38) fun v39 =>
            obind (avInt .i64 v39) fun t39 =>
            lett ((t37 : Int) != t39) fun (t40 : Bool) =>
            lett (fun  (h_49 : AHeap) =>
              lett (!t13) fun (t56 : Bool) =>
              lett (fun (t62 : Bool) (h_52 : AHeap) =>
                lett (fun (t67 : Bool) (h_55 : AHeap) =>
                  some (.ret (.bool t67), h_55)) fun j67 =>
                ifB t62
                (
                  j67 true h_52)
                (
                  obind (ldRow h_52 2 v3) fun t64 =>
                  obind (ldRow h_52 2 v5) fun t65 =>
                  callN (call 13 [.agg t64, .agg t65] h_52) fun r66 h_60 =>
                  obind (avBool r66) fun t66 =>
                  j67 t66 h_60)) fun j62 =>
              ifB t56
              (
                j62 true h_49)
              (
                obind (ldRow h_49 2 v4) fun t58 =>
                obind (ldRow h_49 2 v5) fun t59 =>
                callN (call 13 [.agg t58, .agg t59] h_49) fun r60 h_65 =>
                obind (avBool r60) fun t60 =>
                lett (!t60) fun (t61 : Bool) =>
                j62 t61 h_65)) fun k48 =>
            ifB t40
            (
              obind (fldP 0 v3) fun t42 =>
              obind (ldCell h_35 t42) fun v43 =>
              obind (avInt .i64 v43) fun t43 =>
              obind (fldP 0 v4) fun t44 =>
              obind (ldCell h_35 t44) fun v45 =>
              obind (avInt .i64 v45) fun t45 =>
              lett (decide (t43 > t45)) fun (t46 : Bool) =>
              lett (!((t13 : Bool) == t46)) fun (t47 : Bool) =>
              ifB t47
              (
                some (.ret (.bool false), h_35))
              (
                k48 h_35))
            (
              obind (fldP 1 v3) fun t49 =>
              obind (ldCell h_35 t49) fun v50 =>
              obind (avInt .i64 v50) fun t50 =>
              obind (fldP 1 v4) fun t51 =>
              obind (ldCell h_35 t51) fun v52 =>
              obind (avInt .i64 v52) fun t52 =>
              lett (decide (t50 > t52)) fun (t53 : Bool) =>
              lett (!((t13 : Bool) == t53)) fun (t54 : Bool) =>
              ifB t54
              (
                some (.ret (.bool false), h_35))
              (
                k48 h_35)))) fun j35 =>
        ifB t30
        (
          j35 true h_32)
        (
          obind (ldRow h_32 2 v3) fun t32 =>
          obind (ldRow h_32 2 v3) fun t33 =>
          callN (call 13 [.agg t32, .agg t33] h_32) fun r34 h_91 =>
          obind (avBool r34) fun t34 =>
          j35 t34 h_91)) fun j30 =>
      ifB t20
      (
        j30 true h_29)
      (
        obind (ldRow h_29 2 v3) fun t22 =>
        obind (ldRow h_29 2 v4) fun t23 =>
        obind (eqOther Try.prog 28 (.agg t22) (.agg t23)) fun t24 =>
        lett (fun (t28 : Bool) (h_97 : AHeap) =>
          lett ((t24 : Bool) == t28) fun (t29 : Bool) =>
          j30 t29 h_97) fun j28 =>
        ifB t13
        (
          j28 true h_29)
        (
          j28 t16 h_29))) fun j20 =>
    ifB t13
    (
      j20 t16 h_24)
    (
      j20 false h_24))
set_option maxHeartbeats 4000000 in
set_option maxRecDepth 20000 in
theorem law17_MessageAbove_ok {call : CallF} (hc : SaysAll Try.prog call) {n : Nat} {t0 : List AV} {t1 : List AV} {t2 : List AV} {h : AHeap} {rR : ARes} {hR : AHeap} (hF : law17_MessageAbove call n t0 t1 t2 h = some (rR, hR)) : Says Try.prog 7 [.agg t0, .agg t1, .agg t2] h rR hR := by
  unfold law17_MessageAbove at hF
  refine says_of (fn := Try.f7) Try.func7 (c := codeOf Try.f7) (by kernel_rfl) (by kernel_rfl) (fun w0 m0 => ?_)
  refine W.weaken (l' := [(0, .agg t0), (1, .agg t1), (2, .agg t2)]) (Fr.sub_cons (by kernel_rfl) (Fr.sub_cons (by kernel_rfl) (Fr.sub_cons (by kernel_rfl) (Fr.sub_nil _)))) ?_
  refine W.seqK (by kernel_rfl) (fun K1 n1 e1 r1 p1 => ?_)
  refine W.region (by kernel_rfl) ?_
  replace hF := outK_some hF; obtain ⟨v3, h_2, e3, hF⟩ := hF
  refine WL.val (d := (some 3)) (v := v3) (h' := h_2) (by kernel_rfl) (by kernel_rfl) (Eq.trans (by kernel_rfl) e3) ?_
  replace hF := outK_some hF; obtain ⟨v4, h_4, e5, hF⟩ := hF
  refine WL.val (d := (some 4)) (v := v4) (h' := h_4) (by kernel_rfl) (by kernel_rfl) (Eq.trans (by kernel_rfl) e5) ?_
  replace hF := outK_some hF; obtain ⟨v5, h_6, e7, hF⟩ := hF
  refine WL.val (d := (some 5)) (v := v5) (h' := h_6) (by kernel_rfl) (by kernel_rfl) (Eq.trans (by kernel_rfl) e7) ?_
  refine WL.val (d := (some 6)) (v := .bool false) (h' := h_6) (by kernel_rfl) (by kernel_rfl) (by kernel_rfl) ?_
  refine WL.nil (by kernel_rfl) ?_
  refine Go.weaken (l' := [(3, v3), (4, v4), (5, v5)]) (Fr.sub_cons (by kernel_rfl) (Fr.sub_cons (by kernel_rfl) (Fr.sub_cons (by kernel_rfl) (Fr.sub_nil _)))) ?_
  refine n1 ?_
  refine W.seqK (by kernel_rfl) (fun K8 n8 e8 r8 p8 => ?_)
  refine W.seqK (by kernel_rfl) (fun K9 n9 e9 r9 p9 => ?_)
  refine W.region (by kernel_rfl) ?_
  replace hF := callN_some hF; obtain ⟨r9, h_10, e11, hF⟩ := hF
  replace hF := obind_some hF; obtain ⟨t9, c12, hF⟩ := hF
  have c12 := avBool_some c12
  subst c12
  refine WL.call (hc.ok w0) (d := (some 9)) (by kernel_rfl) (by kernel_rfl) (by kernel_rfl) e11 ?_
  replace hF := lett_some hF; obtain ⟨t10, e13, hF⟩ := hF
  refine WL.val (d := (some 10)) (v := .bool t10) (h' := h_10) (by kernel_rfl) (by kernel_rfl) (val_of AV.bool e13 (by kernel_rfl)) ?_
  refine WL.nil (by kernel_rfl) ?_
  refine Go.weaken (l' := [(3, v3), (4, v4), (5, v5), (10, .bool t10)]) (Fr.sub_cons (by kernel_rfl) (Fr.sub_cons (by kernel_rfl) (Fr.sub_cons (by kernel_rfl) (Fr.sub_cons (by kernel_rfl) (Fr.sub_nil _))))) ?_
  refine n9 ?_
  cases t10 with
  | true =>
    replace hF := ifB_t hF
    refine W.cond_true (by kernel_rfl) (by kernel_rfl) ?_
    refine W.seqK (by kernel_rfl) (fun K14 n14 e14 r14 p14 => ?_)
    refine W.region (by kernel_rfl) ?_
    refine WL.val (d := (some 6)) (v := .bool false) (h' := h_10) (by kernel_rfl) (by kernel_rfl) (by kernel_rfl) ?_
    refine WL.nil (by kernel_rfl) ?_
    refine Go.weaken (l' := [(6, .bool false)]) (Fr.sub_cons (by kernel_rfl) (Fr.sub_nil _)) ?_
    refine n14 ?_
    refine W.ret (by kernel_rfl) ?_
    refine r8 ?_
    obtain ⟨hF, hF2⟩ := ret_inj hF; subst hF; subst hF2
    exact leave_of (rs := [.tmp 6]) (vs := [.bool false]) (by kernel_rfl) (res_tmp (by kernel_rfl) res_nil) (by kernel_rfl)
  | false =>
    replace hF := ifB_f hF
    refine W.cond_false (by kernel_rfl) (by kernel_rfl) ?_
    refine W.skip (by kernel_rfl) ?_
    refine n8 ?_
    refine W.seqK (by kernel_rfl) (fun K15 n15 e15 r15 p15 => ?_)
    refine W.draw (by kernel_rfl) (hc.ok w0) (plan := [0, 1, 3, 4, 2, 5, 6, 7]) (by kernel_rfl) (by kernel_rfl) (by kernel_rfl) ?_
    replace hF := obind_some hF; obtain ⟨t11, e16, hF⟩ := hF
    refine WD.val (d := (some 11)) (v := .agg t11) (h' := h_10) (by kernel_rfl) (by kernel_rfl) (Eq.trans (by kernel_rfl) (load_row (P := Try.prog) (h := h_10) (t := 28) (by kernel_rfl) (by kernel_rfl) e16)) (k := 1) (by kernel_rfl) (fun e => absurd e (by decide)) (by decide) ?_
    replace hF := obind_some hF; obtain ⟨t12, e17, hF⟩ := hF
    refine WD.val (d := (some 12)) (v := .agg t12) (h' := h_10) (by kernel_rfl) (by kernel_rfl) (Eq.trans (by kernel_rfl) (load_row (P := Try.prog) (h := h_10) (t := 28) (by kernel_rfl) (by kernel_rfl) e17)) (k := 1) (by kernel_rfl) (fun e => absurd e (by decide)) (by decide) ?_
    replace hF := obind_some hF; obtain ⟨t14, e18, hF⟩ := hF
    refine WD.val (d := (some 14)) (v := .agg t14) (h' := h_10) (by kernel_rfl) (by kernel_rfl) (Eq.trans (by kernel_rfl) (load_row (P := Try.prog) (h := h_10) (t := 28) (by kernel_rfl) (by kernel_rfl) e18)) (k := 1) (by kernel_rfl) (fun e => absurd e (by decide)) (by decide) ?_
    replace hF := obind_some hF; obtain ⟨t15, e19, hF⟩ := hF
    refine WD.val (d := (some 15)) (v := .agg t15) (h' := h_10) (by kernel_rfl) (by kernel_rfl) (Eq.trans (by kernel_rfl) (load_row (P := Try.prog) (h := h_10) (t := 28) (by kernel_rfl) (by kernel_rfl) e19)) (k := 1) (by kernel_rfl) (fun e => absurd e (by decide)) (by decide) ?_
    replace hF := callN_some hF; obtain ⟨r13, h_20, e21, hF⟩ := hF
    replace hF := obind_some hF; obtain ⟨t13, c22, hF⟩ := hF
    have c22 := avBool_some c22
    subst c22
    replace hF := chk_some hF; obtain ⟨k23, hF⟩ := hF
    refine WD.call (d := (some 13)) (by kernel_rfl) (by kernel_rfl) (by kernel_rfl) e21 (k := 2) (by kernel_rfl) (fun _ => (Eq.trans (by kernel_rfl) k23)) (by decide) ?_
    replace hF := callN_some hF; obtain ⟨r16, h_24, e25, hF⟩ := hF
    replace hF := obind_some hF; obtain ⟨t16, c26, hF⟩ := hF
    have c26 := avBool_some c26
    subst c26
    refine WD.call (d := (some 16)) (by kernel_rfl) (by kernel_rfl) (by kernel_rfl) e25 (k := 2) (by kernel_rfl) (fun _ => (by kernel_rfl)) (by decide) ?_
    refine WD.val (d := (some 7)) (v := .bool t13) (h' := h_24) (by kernel_rfl) (by kernel_rfl) (by kernel_rfl) (k := 0) (by kernel_rfl) (fun e => absurd e (by decide)) (by decide) ?_
    refine WD.val (d := (some 8)) (v := .bool t16) (h' := h_24) (by kernel_rfl) (by kernel_rfl) (by kernel_rfl) (k := 0) (by kernel_rfl) (fun e => absurd e (by decide)) (by decide) ?_
    refine WD.nil ?_
    refine Go.weaken (l' := [(3, v3), (4, v4), (5, v5), (7, .bool t13), (8, .bool t16)]) (Fr.sub_cons (by kernel_rfl) (Fr.sub_cons (by kernel_rfl) (Fr.sub_cons (by kernel_rfl) (Fr.sub_cons (by kernel_rfl) (Fr.sub_cons (by kernel_rfl) (Fr.sub_nil _)))))) ?_
    refine n15 ?_
    refine W.seqK (by kernel_rfl) (fun K27 n27 e27 r27 p27 => ?_)
    refine W.seqK (by kernel_rfl) (fun K28 n28 e28 r28 p28 => ?_)
    refine W.region (by kernel_rfl) ?_
    refine WL.val (d := (some 17)) (v := .bool t13) (h' := h_24) (by kernel_rfl) (by kernel_rfl) (by kernel_rfl) ?_
    refine WL.val (d := (some 18)) (v := .bool t13) (h' := h_24) (by kernel_rfl) (by kernel_rfl) (by kernel_rfl) ?_
    replace hF := lett_some hF; obtain ⟨j20, e30, hF⟩ := hF
    have J31 : ∀ (t20 : Bool) (h_29 : AHeap), j20 t20 h_29 = some (rR, hR) → WL Try.prog w0 m0 (Func.ntmps Try.f7) (Code.ops (Code.p1 (Code.p1 (Code.p2 (Code.p2 (Code.p2 (codeOf Try.f7))))))) 4 K28 [(3, v3), (4, v4), (5, v5), (7, .bool t13), (8, .bool t16), (20, .bool t20)] [] h_29 := by
      intro t20 h_29 hF
      rw [e30] at hF
      refine WL.val (d := (some 21)) (v := .bool t20) (h' := h_29) (by kernel_rfl) (by kernel_rfl) (by kernel_rfl) ?_
      replace hF := lett_some hF; obtain ⟨j30, e33, hF⟩ := hF
      have J34 : ∀ (t30 : Bool) (h_32 : AHeap), j30 t30 h_32 = some (rR, hR) → WL Try.prog w0 m0 (Func.ntmps Try.f7) (Code.ops (Code.p1 (Code.p1 (Code.p2 (Code.p2 (Code.p2 (codeOf Try.f7))))))) 14 K28 [(3, v3), (4, v4), (5, v5), (7, .bool t13), (30, .bool t30)] [] h_32 := by
        intro t30 h_32 hF
        rw [e33] at hF
        refine WL.val (d := (some 31)) (v := .bool t30) (h' := h_32) (by kernel_rfl) (by kernel_rfl) (by kernel_rfl) ?_
        replace hF := lett_some hF; obtain ⟨j35, e36, hF⟩ := hF
        have J37 : ∀ (t35 : Bool) (h_35 : AHeap), j35 t35 h_35 = some (rR, hR) → WL Try.prog w0 m0 (Func.ntmps Try.f7) (Code.ops (Code.p1 (Code.p1 (Code.p2 (Code.p2 (Code.p2 (codeOf Try.f7))))))) 19 K28 [(3, v3), (4, v4), (5, v5), (7, .bool t13), (35, .bool t35)] [] h_35 := by
          intro t35 h_35 hF
          rw [e36] at hF
          refine WL.nil (by kernel_rfl) ?_
          refine Go.weaken (l' := [(3, v3), (4, v4), (5, v5), (7, .bool t13), (35, .bool t35)]) (Fr.sub_cons (by kernel_rfl) (Fr.sub_cons (by kernel_rfl) (Fr.sub_cons (by kernel_rfl) (Fr.sub_cons (by kernel_rfl) (Fr.sub_cons (by kernel_rfl) (Fr.sub_nil _)))))) ?_
          refine n28 ?_
          cases t35 with
          | true =>
            replace hF := ifB_t hF
            refine W.cond_true (by kernel_rfl) (by kernel_rfl) ?_
            refine W.seqK (by kernel_rfl) (fun K38 n38 e38 r38 p38 => ?_)
            refine W.region (by kernel_rfl) ?_
            refine WL.val (d := (some 6)) (v := .bool false) (h' := h_35) (by kernel_rfl) (by kernel_rfl) (by kernel_rfl) ?_
            refine WL.nil (by kernel_rfl) ?_
            refine Go.weaken (l' := [(6, .bool false)]) (Fr.sub_cons (by kernel_rfl) (Fr.sub_nil _)) ?_
            refine n38 ?_
            refine W.ret (by kernel_rfl) ?_
            refine r27 ?_
            obtain ⟨hF, hF2⟩ := ret_inj hF; subst hF; subst hF2
            exact leave_of (rs := [.tmp 6]) (vs := [.bool false]) (by kernel_rfl) (res_tmp (by kernel_rfl) res_nil) (by kernel_rfl)
          | false =>
            replace hF := ifB_f hF
            refine W.cond_false (by kernel_rfl) (by kernel_rfl) ?_
            refine W.skip (by kernel_rfl) ?_
            refine n27 ?_
            refine W.seqK (by kernel_rfl) (fun K39 n39 e39 r39 p39 => ?_)
            refine W.seqK (by kernel_rfl) (fun K40 n40 e40 r40 p40 => ?_)
            refine W.region (by kernel_rfl) ?_
            replace hF := obind_some hF; obtain ⟨t36, e41, hF⟩ := hF
            refine WL.val (d := (some 36)) (v := t36) (h' := h_35) (by kernel_rfl) (by kernel_rfl) (Eq.trans (by kernel_rfl) (field_ptr (P := Try.prog) (h := h_35) (s := 28) (f := 0) (by kernel_rfl) e41)) ?_
            replace hF := obind_some hF; obtain ⟨v37, e42, hF⟩ := hF
            replace hF := obind_some hF; obtain ⟨t37, c43, hF⟩ := hF
            have c43 := avInt_some c43
            subst c43
            refine WL.val (d := (some 37)) (v := .int .i64 t37) (h' := h_35) (by kernel_rfl) (by kernel_rfl) (Eq.trans (by kernel_rfl) (load_cell (P := Try.prog) (h := h_35) (t := 3) (by kernel_rfl) e42)) ?_
            replace hF := obind_some hF; obtain ⟨t38, e44, hF⟩ := hF
            refine WL.val (d := (some 38)) (v := t38) (h' := h_35) (by kernel_rfl) (by kernel_rfl) (Eq.trans (by kernel_rfl) (field_ptr (P := Try.prog) (h := h_35) (s := 28) (f := 0) (by kernel_rfl) e44)) ?_
            replace hF := obind_some hF; obtain ⟨v39, e45, hF⟩ := hF
            replace hF := obind_some hF; obtain ⟨t39, c46, hF⟩ := hF
            have c46 := avInt_some c46
            subst c46
            refine WL.val (d := (some 39)) (v := .int .i64 t39) (h' := h_35) (by kernel_rfl) (by kernel_rfl) (Eq.trans (by kernel_rfl) (load_cell (P := Try.prog) (h := h_35) (t := 3) (by kernel_rfl) e45)) ?_
            replace hF := lett_some hF; obtain ⟨t40, e47, hF⟩ := hF
            refine WL.val (d := (some 40)) (v := .bool t40) (h' := h_35) (by kernel_rfl) (by kernel_rfl) (val_of AV.bool e47 (by kernel_rfl)) ?_
            refine WL.nil (by kernel_rfl) ?_
            refine Go.weaken (l' := [(3, v3), (4, v4), (5, v5), (7, .bool t13), (40, .bool t40)]) (Fr.sub_cons (by kernel_rfl) (Fr.sub_cons (by kernel_rfl) (Fr.sub_cons (by kernel_rfl) (Fr.sub_cons (by kernel_rfl) (Fr.sub_cons (by kernel_rfl) (Fr.sub_nil _)))))) ?_
            refine n40 ?_
            replace hF := lett_some hF; obtain ⟨k48, e48, hF⟩ := hF
            have J48 : ∀  (h_49 : AHeap), k48 h_49 = some (rR, hR) → Go w0 m0 (Func.ntmps Try.f7) (K39 .normal) [(3, v3), (4, v4), (5, v5), (7, .bool t13)] [] h_49 := by
              intro  h_49 hF
              rw [e48] at hF
              refine n39 ?_
              refine W.seqK (by kernel_rfl) (fun K50 n50 e50 r50 p50 => ?_)
              refine W.region (by kernel_rfl) ?_
              refine WL.val (d := (some 55)) (v := .bool t13) (h' := h_49) (by kernel_rfl) (by kernel_rfl) (by kernel_rfl) ?_
              replace hF := lett_some hF; obtain ⟨t56, e51, hF⟩ := hF
              refine WL.val (d := (some 56)) (v := .bool t56) (h' := h_49) (by kernel_rfl) (by kernel_rfl) (val_of AV.bool e51 (by kernel_rfl)) ?_
              refine WL.val (d := (some 57)) (v := .bool t56) (h' := h_49) (by kernel_rfl) (by kernel_rfl) (by kernel_rfl) ?_
              replace hF := lett_some hF; obtain ⟨j62, e53, hF⟩ := hF
              have J54 : ∀ (t62 : Bool) (h_52 : AHeap), j62 t62 h_52 = some (rR, hR) → WL Try.prog w0 m0 (Func.ntmps Try.f7) (Code.ops (Code.p1 (Code.p2 (Code.p2 (Code.p2 (Code.p2 (Code.p2 (codeOf Try.f7)))))))) 8 K50 [(3, v3), (5, v5), (62, .bool t62)] [] h_52 := by
                intro t62 h_52 hF
                rw [e53] at hF
                refine WL.val (d := (some 63)) (v := .bool t62) (h' := h_52) (by kernel_rfl) (by kernel_rfl) (by kernel_rfl) ?_
                replace hF := lett_some hF; obtain ⟨j67, e56, hF⟩ := hF
                have J57 : ∀ (t67 : Bool) (h_55 : AHeap), j67 t67 h_55 = some (rR, hR) → WL Try.prog w0 m0 (Func.ntmps Try.f7) (Code.ops (Code.p1 (Code.p2 (Code.p2 (Code.p2 (Code.p2 (Code.p2 (codeOf Try.f7)))))))) 13 K50 [(67, .bool t67)] [] h_55 := by
                  intro t67 h_55 hF
                  rw [e56] at hF
                  refine WL.val (d := (some 6)) (v := .bool t67) (h' := h_55) (by kernel_rfl) (by kernel_rfl) (by kernel_rfl) ?_
                  refine WL.nil (by kernel_rfl) ?_
                  refine Go.weaken (l' := [(6, .bool t67)]) (Fr.sub_cons (by kernel_rfl) (Fr.sub_nil _)) ?_
                  refine n50 ?_
                  refine W.ret (by kernel_rfl) ?_
                  obtain ⟨hF, hF2⟩ := ret_inj hF; subst hF; subst hF2
                  exact leave_of (rs := [.tmp 6]) (vs := [.bool t67]) (by kernel_rfl) (res_tmp (by kernel_rfl) res_nil) (by kernel_rfl)
                cases t62 with
                | true =>
                  replace hF := ifB_t hF
                  refine WL.not (d := (some 64)) (by kernel_rfl) (by kernel_rfl) ?_
                  refine WL.not (d := (some 65)) (by kernel_rfl) (by kernel_rfl) ?_
                  refine WL.not (d := (some 66)) (by kernel_rfl) (by kernel_rfl) ?_
                  refine WL.val (d := (some 67)) (v := .bool true) (h' := h_52) (by kernel_rfl) (by kernel_rfl) (by kernel_rfl) ?_
                  exact WL.weaken (Fr.sub_cons (by kernel_rfl) (Fr.sub_nil _)) (J57 _ _ hF)
                | false =>
                  replace hF := ifB_f hF
                  replace hF := obind_some hF; obtain ⟨t64, e58, hF⟩ := hF
                  refine WL.val (d := (some 64)) (v := .agg t64) (h' := h_52) (by kernel_rfl) (by kernel_rfl) (Eq.trans (by kernel_rfl) (load_row (P := Try.prog) (h := h_52) (t := 28) (by kernel_rfl) (by kernel_rfl) e58)) ?_
                  replace hF := obind_some hF; obtain ⟨t65, e59, hF⟩ := hF
                  refine WL.val (d := (some 65)) (v := .agg t65) (h' := h_52) (by kernel_rfl) (by kernel_rfl) (Eq.trans (by kernel_rfl) (load_row (P := Try.prog) (h := h_52) (t := 28) (by kernel_rfl) (by kernel_rfl) e59)) ?_
                  replace hF := callN_some hF; obtain ⟨r66, h_60, e61, hF⟩ := hF
                  replace hF := obind_some hF; obtain ⟨t66, c62, hF⟩ := hF
                  have c62 := avBool_some c62
                  subst c62
                  refine WL.call (hc.ok w0) (d := (some 66)) (by kernel_rfl) (by kernel_rfl) (by kernel_rfl) e61 ?_
                  refine WL.val (d := (some 67)) (v := .bool t66) (h' := h_60) (by kernel_rfl) (by kernel_rfl) (by kernel_rfl) ?_
                  exact WL.weaken (Fr.sub_cons (by kernel_rfl) (Fr.sub_nil _)) (J57 _ _ hF)
              cases t56 with
              | true =>
                replace hF := ifB_t hF
                refine WL.not (d := (some 58)) (by kernel_rfl) (by kernel_rfl) ?_
                refine WL.not (d := (some 59)) (by kernel_rfl) (by kernel_rfl) ?_
                refine WL.not (d := (some 60)) (by kernel_rfl) (by kernel_rfl) ?_
                refine WL.not (d := (some 61)) (by kernel_rfl) (by kernel_rfl) ?_
                refine WL.val (d := (some 62)) (v := .bool true) (h' := h_49) (by kernel_rfl) (by kernel_rfl) (by kernel_rfl) ?_
                exact WL.weaken (Fr.sub_cons (by kernel_rfl) (Fr.sub_cons (by kernel_rfl) (Fr.sub_cons (by kernel_rfl) (Fr.sub_nil _)))) (J54 _ _ hF)
              | false =>
                replace hF := ifB_f hF
                replace hF := obind_some hF; obtain ⟨t58, e63, hF⟩ := hF
                refine WL.val (d := (some 58)) (v := .agg t58) (h' := h_49) (by kernel_rfl) (by kernel_rfl) (Eq.trans (by kernel_rfl) (load_row (P := Try.prog) (h := h_49) (t := 28) (by kernel_rfl) (by kernel_rfl) e63)) ?_
                replace hF := obind_some hF; obtain ⟨t59, e64, hF⟩ := hF
                refine WL.val (d := (some 59)) (v := .agg t59) (h' := h_49) (by kernel_rfl) (by kernel_rfl) (Eq.trans (by kernel_rfl) (load_row (P := Try.prog) (h := h_49) (t := 28) (by kernel_rfl) (by kernel_rfl) e64)) ?_
                replace hF := callN_some hF; obtain ⟨r60, h_65, e66, hF⟩ := hF
                replace hF := obind_some hF; obtain ⟨t60, c67, hF⟩ := hF
                have c67 := avBool_some c67
                subst c67
                refine WL.call (hc.ok w0) (d := (some 60)) (by kernel_rfl) (by kernel_rfl) (by kernel_rfl) e66 ?_
                replace hF := lett_some hF; obtain ⟨t61, e68, hF⟩ := hF
                refine WL.val (d := (some 61)) (v := .bool t61) (h' := h_65) (by kernel_rfl) (by kernel_rfl) (val_of AV.bool e68 (by kernel_rfl)) ?_
                refine WL.val (d := (some 62)) (v := .bool t61) (h' := h_65) (by kernel_rfl) (by kernel_rfl) (by kernel_rfl) ?_
                exact WL.weaken (Fr.sub_cons (by kernel_rfl) (Fr.sub_cons (by kernel_rfl) (Fr.sub_cons (by kernel_rfl) (Fr.sub_nil _)))) (J54 _ _ hF)
            cases t40 with
            | true =>
              replace hF := ifB_t hF
              refine W.cond_true (by kernel_rfl) (by kernel_rfl) ?_
              refine W.seqK (by kernel_rfl) (fun K69 n69 e69 r69 p69 => ?_)
              refine W.region (by kernel_rfl) ?_
              refine WL.val (d := (some 41)) (v := .bool t13) (h' := h_35) (by kernel_rfl) (by kernel_rfl) (by kernel_rfl) ?_
              replace hF := obind_some hF; obtain ⟨t42, e70, hF⟩ := hF
              refine WL.val (d := (some 42)) (v := t42) (h' := h_35) (by kernel_rfl) (by kernel_rfl) (Eq.trans (by kernel_rfl) (field_ptr (P := Try.prog) (h := h_35) (s := 28) (f := 0) (by kernel_rfl) e70)) ?_
              replace hF := obind_some hF; obtain ⟨v43, e71, hF⟩ := hF
              replace hF := obind_some hF; obtain ⟨t43, c72, hF⟩ := hF
              have c72 := avInt_some c72
              subst c72
              refine WL.val (d := (some 43)) (v := .int .i64 t43) (h' := h_35) (by kernel_rfl) (by kernel_rfl) (Eq.trans (by kernel_rfl) (load_cell (P := Try.prog) (h := h_35) (t := 3) (by kernel_rfl) e71)) ?_
              replace hF := obind_some hF; obtain ⟨t44, e73, hF⟩ := hF
              refine WL.val (d := (some 44)) (v := t44) (h' := h_35) (by kernel_rfl) (by kernel_rfl) (Eq.trans (by kernel_rfl) (field_ptr (P := Try.prog) (h := h_35) (s := 28) (f := 0) (by kernel_rfl) e73)) ?_
              replace hF := obind_some hF; obtain ⟨v45, e74, hF⟩ := hF
              replace hF := obind_some hF; obtain ⟨t45, c75, hF⟩ := hF
              have c75 := avInt_some c75
              subst c75
              refine WL.val (d := (some 45)) (v := .int .i64 t45) (h' := h_35) (by kernel_rfl) (by kernel_rfl) (Eq.trans (by kernel_rfl) (load_cell (P := Try.prog) (h := h_35) (t := 3) (by kernel_rfl) e74)) ?_
              replace hF := lett_some hF; obtain ⟨t46, e76, hF⟩ := hF
              refine WL.val (d := (some 46)) (v := .bool t46) (h' := h_35) (by kernel_rfl) (by kernel_rfl) (val_of AV.bool e76 (by kernel_rfl)) ?_
              replace hF := lett_some hF; obtain ⟨t47, e77, hF⟩ := hF
              refine WL.val (d := (some 47)) (v := .bool t47) (h' := h_35) (by kernel_rfl) (by kernel_rfl) (val_of AV.bool e77 (by kernel_rfl)) ?_
              refine WL.nil (by kernel_rfl) ?_
              refine Go.weaken (l' := [(3, v3), (4, v4), (5, v5), (7, .bool t13), (47, .bool t47)]) (Fr.sub_cons (by kernel_rfl) (Fr.sub_cons (by kernel_rfl) (Fr.sub_cons (by kernel_rfl) (Fr.sub_cons (by kernel_rfl) (Fr.sub_cons (by kernel_rfl) (Fr.sub_nil _)))))) ?_
              refine n69 ?_
              cases t47 with
              | true =>
                replace hF := ifB_t hF
                refine W.cond_true (by kernel_rfl) (by kernel_rfl) ?_
                refine W.seqK (by kernel_rfl) (fun K78 n78 e78 r78 p78 => ?_)
                refine W.region (by kernel_rfl) ?_
                refine WL.val (d := (some 6)) (v := .bool false) (h' := h_35) (by kernel_rfl) (by kernel_rfl) (by kernel_rfl) ?_
                refine WL.nil (by kernel_rfl) ?_
                refine Go.weaken (l' := [(6, .bool false)]) (Fr.sub_cons (by kernel_rfl) (Fr.sub_nil _)) ?_
                refine n78 ?_
                refine W.ret (by kernel_rfl) ?_
                refine r39 ?_
                obtain ⟨hF, hF2⟩ := ret_inj hF; subst hF; subst hF2
                exact leave_of (rs := [.tmp 6]) (vs := [.bool false]) (by kernel_rfl) (res_tmp (by kernel_rfl) res_nil) (by kernel_rfl)
              | false =>
                replace hF := ifB_f hF
                refine W.cond_false (by kernel_rfl) (by kernel_rfl) ?_
                refine W.skip (by kernel_rfl) ?_
                exact Go.weaken (Fr.sub_cons (by kernel_rfl) (Fr.sub_cons (by kernel_rfl) (Fr.sub_cons (by kernel_rfl) (Fr.sub_cons (by kernel_rfl) (Fr.sub_nil _))))) (J48 _ hF)
            | false =>
              replace hF := ifB_f hF
              refine W.cond_false (by kernel_rfl) (by kernel_rfl) ?_
              refine W.seqK (by kernel_rfl) (fun K79 n79 e79 r79 p79 => ?_)
              refine W.region (by kernel_rfl) ?_
              refine WL.val (d := (some 48)) (v := .bool t13) (h' := h_35) (by kernel_rfl) (by kernel_rfl) (by kernel_rfl) ?_
              replace hF := obind_some hF; obtain ⟨t49, e80, hF⟩ := hF
              refine WL.val (d := (some 49)) (v := t49) (h' := h_35) (by kernel_rfl) (by kernel_rfl) (Eq.trans (by kernel_rfl) (field_ptr (P := Try.prog) (h := h_35) (s := 28) (f := 1) (by kernel_rfl) e80)) ?_
              replace hF := obind_some hF; obtain ⟨v50, e81, hF⟩ := hF
              replace hF := obind_some hF; obtain ⟨t50, c82, hF⟩ := hF
              have c82 := avInt_some c82
              subst c82
              refine WL.val (d := (some 50)) (v := .int .i64 t50) (h' := h_35) (by kernel_rfl) (by kernel_rfl) (Eq.trans (by kernel_rfl) (load_cell (P := Try.prog) (h := h_35) (t := 3) (by kernel_rfl) e81)) ?_
              replace hF := obind_some hF; obtain ⟨t51, e83, hF⟩ := hF
              refine WL.val (d := (some 51)) (v := t51) (h' := h_35) (by kernel_rfl) (by kernel_rfl) (Eq.trans (by kernel_rfl) (field_ptr (P := Try.prog) (h := h_35) (s := 28) (f := 1) (by kernel_rfl) e83)) ?_
              replace hF := obind_some hF; obtain ⟨v52, e84, hF⟩ := hF
              replace hF := obind_some hF; obtain ⟨t52, c85, hF⟩ := hF
              have c85 := avInt_some c85
              subst c85
              refine WL.val (d := (some 52)) (v := .int .i64 t52) (h' := h_35) (by kernel_rfl) (by kernel_rfl) (Eq.trans (by kernel_rfl) (load_cell (P := Try.prog) (h := h_35) (t := 3) (by kernel_rfl) e84)) ?_
              replace hF := lett_some hF; obtain ⟨t53, e86, hF⟩ := hF
              refine WL.val (d := (some 53)) (v := .bool t53) (h' := h_35) (by kernel_rfl) (by kernel_rfl) (val_of AV.bool e86 (by kernel_rfl)) ?_
              replace hF := lett_some hF; obtain ⟨t54, e87, hF⟩ := hF
              refine WL.val (d := (some 54)) (v := .bool t54) (h' := h_35) (by kernel_rfl) (by kernel_rfl) (val_of AV.bool e87 (by kernel_rfl)) ?_
              refine WL.nil (by kernel_rfl) ?_
              refine Go.weaken (l' := [(3, v3), (4, v4), (5, v5), (7, .bool t13), (54, .bool t54)]) (Fr.sub_cons (by kernel_rfl) (Fr.sub_cons (by kernel_rfl) (Fr.sub_cons (by kernel_rfl) (Fr.sub_cons (by kernel_rfl) (Fr.sub_cons (by kernel_rfl) (Fr.sub_nil _)))))) ?_
              refine n79 ?_
              cases t54 with
              | true =>
                replace hF := ifB_t hF
                refine W.cond_true (by kernel_rfl) (by kernel_rfl) ?_
                refine W.seqK (by kernel_rfl) (fun K88 n88 e88 r88 p88 => ?_)
                refine W.region (by kernel_rfl) ?_
                refine WL.val (d := (some 6)) (v := .bool false) (h' := h_35) (by kernel_rfl) (by kernel_rfl) (by kernel_rfl) ?_
                refine WL.nil (by kernel_rfl) ?_
                refine Go.weaken (l' := [(6, .bool false)]) (Fr.sub_cons (by kernel_rfl) (Fr.sub_nil _)) ?_
                refine n88 ?_
                refine W.ret (by kernel_rfl) ?_
                refine r39 ?_
                obtain ⟨hF, hF2⟩ := ret_inj hF; subst hF; subst hF2
                exact leave_of (rs := [.tmp 6]) (vs := [.bool false]) (by kernel_rfl) (res_tmp (by kernel_rfl) res_nil) (by kernel_rfl)
              | false =>
                replace hF := ifB_f hF
                refine W.cond_false (by kernel_rfl) (by kernel_rfl) ?_
                refine W.skip (by kernel_rfl) ?_
                exact Go.weaken (Fr.sub_cons (by kernel_rfl) (Fr.sub_cons (by kernel_rfl) (Fr.sub_cons (by kernel_rfl) (Fr.sub_cons (by kernel_rfl) (Fr.sub_nil _))))) (J48 _ hF)
        cases t30 with
        | true =>
          replace hF := ifB_t hF
          refine WL.not (d := (some 32)) (by kernel_rfl) (by kernel_rfl) ?_
          refine WL.not (d := (some 33)) (by kernel_rfl) (by kernel_rfl) ?_
          refine WL.not (d := (some 34)) (by kernel_rfl) (by kernel_rfl) ?_
          refine WL.val (d := (some 35)) (v := .bool true) (h' := h_32) (by kernel_rfl) (by kernel_rfl) (by kernel_rfl) ?_
          exact WL.weaken (Fr.sub_cons (by kernel_rfl) (Fr.sub_cons (by kernel_rfl) (Fr.sub_cons (by kernel_rfl) (Fr.sub_cons (by kernel_rfl) (Fr.sub_cons (by kernel_rfl) (Fr.sub_nil _)))))) (J37 _ _ hF)
        | false =>
          replace hF := ifB_f hF
          replace hF := obind_some hF; obtain ⟨t32, e89, hF⟩ := hF
          refine WL.val (d := (some 32)) (v := .agg t32) (h' := h_32) (by kernel_rfl) (by kernel_rfl) (Eq.trans (by kernel_rfl) (load_row (P := Try.prog) (h := h_32) (t := 28) (by kernel_rfl) (by kernel_rfl) e89)) ?_
          replace hF := obind_some hF; obtain ⟨t33, e90, hF⟩ := hF
          refine WL.val (d := (some 33)) (v := .agg t33) (h' := h_32) (by kernel_rfl) (by kernel_rfl) (Eq.trans (by kernel_rfl) (load_row (P := Try.prog) (h := h_32) (t := 28) (by kernel_rfl) (by kernel_rfl) e90)) ?_
          replace hF := callN_some hF; obtain ⟨r34, h_91, e92, hF⟩ := hF
          replace hF := obind_some hF; obtain ⟨t34, c93, hF⟩ := hF
          have c93 := avBool_some c93
          subst c93
          refine WL.call (hc.ok w0) (d := (some 34)) (by kernel_rfl) (by kernel_rfl) (by kernel_rfl) e92 ?_
          refine WL.val (d := (some 35)) (v := .bool t34) (h' := h_91) (by kernel_rfl) (by kernel_rfl) (by kernel_rfl) ?_
          exact WL.weaken (Fr.sub_cons (by kernel_rfl) (Fr.sub_cons (by kernel_rfl) (Fr.sub_cons (by kernel_rfl) (Fr.sub_cons (by kernel_rfl) (Fr.sub_cons (by kernel_rfl) (Fr.sub_nil _)))))) (J37 _ _ hF)
      cases t20 with
      | true =>
        replace hF := ifB_t hF
        refine WL.not (d := (some 22)) (by kernel_rfl) (by kernel_rfl) ?_
        refine WL.not (d := (some 23)) (by kernel_rfl) (by kernel_rfl) ?_
        refine WL.not (d := (some 24)) (by kernel_rfl) (by kernel_rfl) ?_
        refine WL.not (d := (some 25)) (by kernel_rfl) (by kernel_rfl) ?_
        refine WL.not (d := (some 26)) (by kernel_rfl) (by kernel_rfl) ?_
        refine WL.not (d := (some 27)) (by kernel_rfl) (by kernel_rfl) ?_
        refine WL.not (d := (some 28)) (by kernel_rfl) (by kernel_rfl) ?_
        refine WL.not (d := (some 29)) (by kernel_rfl) (by kernel_rfl) ?_
        refine WL.val (d := (some 30)) (v := .bool true) (h' := h_29) (by kernel_rfl) (by kernel_rfl) (by kernel_rfl) ?_
        exact WL.weaken (Fr.sub_cons (by kernel_rfl) (Fr.sub_cons (by kernel_rfl) (Fr.sub_cons (by kernel_rfl) (Fr.sub_cons (by kernel_rfl) (Fr.sub_cons (by kernel_rfl) (Fr.sub_nil _)))))) (J34 _ _ hF)
      | false =>
        replace hF := ifB_f hF
        replace hF := obind_some hF; obtain ⟨t22, e94, hF⟩ := hF
        refine WL.val (d := (some 22)) (v := .agg t22) (h' := h_29) (by kernel_rfl) (by kernel_rfl) (Eq.trans (by kernel_rfl) (load_row (P := Try.prog) (h := h_29) (t := 28) (by kernel_rfl) (by kernel_rfl) e94)) ?_
        replace hF := obind_some hF; obtain ⟨t23, e95, hF⟩ := hF
        refine WL.val (d := (some 23)) (v := .agg t23) (h' := h_29) (by kernel_rfl) (by kernel_rfl) (Eq.trans (by kernel_rfl) (load_row (P := Try.prog) (h := h_29) (t := 28) (by kernel_rfl) (by kernel_rfl) e95)) ?_
        replace hF := obind_some hF; obtain ⟨t24, e96, hF⟩ := hF
        refine WL.val (d := (some 24)) (v := .bool t24) (h' := h_29) (by kernel_rfl) (by kernel_rfl) (Eq.trans (by kernel_rfl) (eq_other (P := Try.prog) (h := h_29) (t := 28) (lit := false) (by kernel_rfl) e96)) ?_
        refine WL.val (d := (some 25)) (v := .bool t13) (h' := h_29) (by kernel_rfl) (by kernel_rfl) (by kernel_rfl) ?_
        refine WL.val (d := (some 26)) (v := .bool t13) (h' := h_29) (by kernel_rfl) (by kernel_rfl) (by kernel_rfl) ?_
        replace hF := lett_some hF; obtain ⟨j28, e98, hF⟩ := hF
        have J99 : ∀ (t28 : Bool) (h_97 : AHeap), j28 t28 h_97 = some (rR, hR) → WL Try.prog w0 m0 (Func.ntmps Try.f7) (Code.ops (Code.p1 (Code.p1 (Code.p2 (Code.p2 (Code.p2 (codeOf Try.f7))))))) 12 K28 [(3, v3), (4, v4), (5, v5), (7, .bool t13), (21, .bool false), (24, .bool t24), (28, .bool t28)] [] h_97 := by
          intro t28 h_97 hF
          rw [e98] at hF
          replace hF := lett_some hF; obtain ⟨t29, e100, hF⟩ := hF
          refine WL.val (d := (some 29)) (v := .bool t29) (h' := h_97) (by kernel_rfl) (by kernel_rfl) (val_of AV.bool e100 (by kernel_rfl)) ?_
          refine WL.val (d := (some 30)) (v := .bool t29) (h' := h_97) (by kernel_rfl) (by kernel_rfl) (by kernel_rfl) ?_
          exact WL.weaken (Fr.sub_cons (by kernel_rfl) (Fr.sub_cons (by kernel_rfl) (Fr.sub_cons (by kernel_rfl) (Fr.sub_cons (by kernel_rfl) (Fr.sub_cons (by kernel_rfl) (Fr.sub_nil _)))))) (J34 _ _ hF)
        cases t13 with
        | true =>
          replace hF := ifB_t hF
          refine WL.not (d := (some 27)) (by kernel_rfl) (by kernel_rfl) ?_
          refine WL.val (d := (some 28)) (v := .bool true) (h' := h_29) (by kernel_rfl) (by kernel_rfl) (by kernel_rfl) ?_
          exact WL.weaken (Fr.sub_cons (by kernel_rfl) (Fr.sub_cons (by kernel_rfl) (Fr.sub_cons (by kernel_rfl) (Fr.sub_cons (by kernel_rfl) (Fr.sub_cons (by kernel_rfl) (Fr.sub_cons (by kernel_rfl) (Fr.sub_cons (by kernel_rfl) (Fr.sub_nil _)))))))) (J99 _ _ hF)
        | false =>
          replace hF := ifB_f hF
          refine WL.val (d := (some 27)) (v := .bool t16) (h' := h_29) (by kernel_rfl) (by kernel_rfl) (by kernel_rfl) ?_
          refine WL.val (d := (some 28)) (v := .bool t16) (h' := h_29) (by kernel_rfl) (by kernel_rfl) (by kernel_rfl) ?_
          exact WL.weaken (Fr.sub_cons (by kernel_rfl) (Fr.sub_cons (by kernel_rfl) (Fr.sub_cons (by kernel_rfl) (Fr.sub_cons (by kernel_rfl) (Fr.sub_cons (by kernel_rfl) (Fr.sub_cons (by kernel_rfl) (Fr.sub_cons (by kernel_rfl) (Fr.sub_nil _)))))))) (J99 _ _ hF)
    cases t13 with
    | true =>
      replace hF := ifB_t hF
      refine WL.val (d := (some 19)) (v := .bool t16) (h' := h_24) (by kernel_rfl) (by kernel_rfl) (by kernel_rfl) ?_
      refine WL.val (d := (some 20)) (v := .bool t16) (h' := h_24) (by kernel_rfl) (by kernel_rfl) (by kernel_rfl) ?_
      exact WL.weaken (Fr.sub_cons (by kernel_rfl) (Fr.sub_cons (by kernel_rfl) (Fr.sub_cons (by kernel_rfl) (Fr.sub_cons (by kernel_rfl) (Fr.sub_cons (by kernel_rfl) (Fr.sub_cons (by kernel_rfl) (Fr.sub_nil _))))))) (J31 _ _ hF)
    | false =>
      replace hF := ifB_f hF
      refine WL.not (d := (some 19)) (by kernel_rfl) (by kernel_rfl) ?_
      refine WL.val (d := (some 20)) (v := .bool false) (h' := h_24) (by kernel_rfl) (by kernel_rfl) (by kernel_rfl) ?_
      exact WL.weaken (Fr.sub_cons (by kernel_rfl) (Fr.sub_cons (by kernel_rfl) (Fr.sub_cons (by kernel_rfl) (Fr.sub_cons (by kernel_rfl) (Fr.sub_cons (by kernel_rfl) (Fr.sub_cons (by kernel_rfl) (Fr.sub_nil _))))))) (J31 _ _ hF)
noncomputable def law17_MessageAbove_fn (call : CallF) (n : Nat) : FnT := fun args h => match args with
  | [x0, x1, x2] => obind (avAgg x0) fun t0 => obind (avAgg x1) fun t1 => obind (avAgg x2) fun t2 => law17_MessageAbove call n t0 t1 t2 h
  | _ => none
set_option maxRecDepth 100000 in
theorem law17_MessageAbove_fn_eq (call : CallF) (n : Nat) (t0 : List AV) (t1 : List AV) (t2 : List AV) (h : AHeap) : law17_MessageAbove_fn call n [.agg t0, .agg t1, .agg t2] h = law17_MessageAbove call n t0 t1 t2 h :=
  (Eq.trans (obind_eq (fun t0 => obind (avAgg (.agg t1)) fun t1 => obind (avAgg (.agg t2)) fun t2 => law17_MessageAbove call n t0 t1 t2 h) (avAgg_agg t0)) (Eq.trans (obind_eq (fun t1 => obind (avAgg (.agg t2)) fun t2 => law17_MessageAbove call n t0 t1 t2 h) (avAgg_agg t1)) (Eq.trans (obind_eq (fun t2 => law17_MessageAbove call n t0 t1 t2 h) (avAgg_agg t2)) rfl)))
theorem law17_MessageAbove_holds {call : CallF} (hc : SaysAll Try.prog call) (n : Nat) : Holds Try.prog 7 (law17_MessageAbove_fn call n) := by
  intro args h r h2 e
  unfold law17_MessageAbove_fn at e
  split at e
  · replace e := obind_some e; obtain ⟨t0, c0, e⟩ := e; have c0 := avAgg_some c0; subst c0
    replace e := obind_some e; obtain ⟨t1, c1, e⟩ := e; have c1 := avAgg_some c1; subst c1
    replace e := obind_some e; obtain ⟨t2, c2, e⟩ := e; have c2 := avAgg_some c2; subst c2
    exact law17_MessageAbove_ok hc e
  · cases e

noncomputable def message_Above (_ : CallF) (_ : Nat) (t0 : List AV) (t1 : List AV) (h : AHeap) : R :=
  outK (opBox h 28 (some (.agg t0))) fun v2 h_2 =>
  outK (opBox h_2 28 (some (.agg t1))) fun v3 h_4 =>
  obind (fldP 0 v2) fun t5 =>
  obind (ldCell h_4 t5) fun v6 =>
  obind (avInt .i64 v6) fun t6 =>
  obind (fldP 0 v3) fun t7 =>
  obind (ldCell h_4 t7) fun v8 =>
  obind (avInt .i64 v8) fun t8 =>
  lett ((t6 : Int) != t8) fun (t9 : Bool) =>
  ifB t9
  (
    obind (fldP 0 v2) fun t10 =>
    obind (ldCell h_4 t10) fun v11 =>
    obind (avInt .i64 v11) fun t11 =>
    obind (fldP 0 v3) fun t12 =>
    obind (ldCell h_4 t12) fun v13 =>
    obind (avInt .i64 v13) fun t13 =>
    lett (decide (t11 > t13)) fun (t14 : Bool) =>
    some (.ret (.bool t14), h_4))
  (
    obind (fldP 1 v2) fun t15 =>
    obind (ldCell h_4 t15) fun v16 =>
    obind (avInt .i64 v16) fun t16 =>
    obind (fldP 1 v3) fun t17 =>
    obind (ldCell h_4 t17) fun v18 =>
    obind (avInt .i64 v18) fun t18 =>
    lett (decide (t16 > t18)) fun (t19 : Bool) =>
    some (.ret (.bool t19), h_4))
set_option maxHeartbeats 4000000 in
set_option maxRecDepth 20000 in
theorem message_Above_ok {call : CallF} (_ : SaysAll Try.prog call) {n : Nat} {t0 : List AV} {t1 : List AV} {h : AHeap} {rR : ARes} {hR : AHeap} (hF : message_Above call n t0 t1 h = some (rR, hR)) : Says Try.prog 13 [.agg t0, .agg t1] h rR hR := by
  unfold message_Above at hF
  refine says_of (fn := Try.f13) Try.func13 (c := codeOf Try.f13) (by kernel_rfl) (by kernel_rfl) (fun w0 m0 => ?_)
  refine W.weaken (l' := [(0, .agg t0), (1, .agg t1)]) (Fr.sub_cons (by kernel_rfl) (Fr.sub_cons (by kernel_rfl) (Fr.sub_nil _))) ?_
  refine W.seqK (by kernel_rfl) (fun K1 n1 e1 r1 p1 => ?_)
  refine W.region (by kernel_rfl) ?_
  replace hF := outK_some hF; obtain ⟨v2, h_2, e3, hF⟩ := hF
  refine WL.val (d := (some 2)) (v := v2) (h' := h_2) (by kernel_rfl) (by kernel_rfl) (Eq.trans (by kernel_rfl) e3) ?_
  replace hF := outK_some hF; obtain ⟨v3, h_4, e5, hF⟩ := hF
  refine WL.val (d := (some 3)) (v := v3) (h' := h_4) (by kernel_rfl) (by kernel_rfl) (Eq.trans (by kernel_rfl) e5) ?_
  refine WL.val (d := (some 4)) (v := .bool false) (h' := h_4) (by kernel_rfl) (by kernel_rfl) (by kernel_rfl) ?_
  refine WL.nil (by kernel_rfl) ?_
  refine Go.weaken (l' := [(2, v2), (3, v3)]) (Fr.sub_cons (by kernel_rfl) (Fr.sub_cons (by kernel_rfl) (Fr.sub_nil _))) ?_
  refine n1 ?_
  refine W.seqK (by kernel_rfl) (fun K6 n6 e6 r6 p6 => ?_)
  refine W.seqK (by kernel_rfl) (fun K7 n7 e7 r7 p7 => ?_)
  refine W.region (by kernel_rfl) ?_
  replace hF := obind_some hF; obtain ⟨t5, e8, hF⟩ := hF
  refine WL.val (d := (some 5)) (v := t5) (h' := h_4) (by kernel_rfl) (by kernel_rfl) (Eq.trans (by kernel_rfl) (field_ptr (P := Try.prog) (h := h_4) (s := 28) (f := 0) (by kernel_rfl) e8)) ?_
  replace hF := obind_some hF; obtain ⟨v6, e9, hF⟩ := hF
  replace hF := obind_some hF; obtain ⟨t6, c10, hF⟩ := hF
  have c10 := avInt_some c10
  subst c10
  refine WL.val (d := (some 6)) (v := .int .i64 t6) (h' := h_4) (by kernel_rfl) (by kernel_rfl) (Eq.trans (by kernel_rfl) (load_cell (P := Try.prog) (h := h_4) (t := 3) (by kernel_rfl) e9)) ?_
  replace hF := obind_some hF; obtain ⟨t7, e11, hF⟩ := hF
  refine WL.val (d := (some 7)) (v := t7) (h' := h_4) (by kernel_rfl) (by kernel_rfl) (Eq.trans (by kernel_rfl) (field_ptr (P := Try.prog) (h := h_4) (s := 28) (f := 0) (by kernel_rfl) e11)) ?_
  replace hF := obind_some hF; obtain ⟨v8, e12, hF⟩ := hF
  replace hF := obind_some hF; obtain ⟨t8, c13, hF⟩ := hF
  have c13 := avInt_some c13
  subst c13
  refine WL.val (d := (some 8)) (v := .int .i64 t8) (h' := h_4) (by kernel_rfl) (by kernel_rfl) (Eq.trans (by kernel_rfl) (load_cell (P := Try.prog) (h := h_4) (t := 3) (by kernel_rfl) e12)) ?_
  replace hF := lett_some hF; obtain ⟨t9, e14, hF⟩ := hF
  refine WL.val (d := (some 9)) (v := .bool t9) (h' := h_4) (by kernel_rfl) (by kernel_rfl) (val_of AV.bool e14 (by kernel_rfl)) ?_
  refine WL.nil (by kernel_rfl) ?_
  refine Go.weaken (l' := [(2, v2), (3, v3), (9, .bool t9)]) (Fr.sub_cons (by kernel_rfl) (Fr.sub_cons (by kernel_rfl) (Fr.sub_cons (by kernel_rfl) (Fr.sub_nil _)))) ?_
  refine n7 ?_
  cases t9 with
  | true =>
    replace hF := ifB_t hF
    refine W.cond_true (by kernel_rfl) (by kernel_rfl) ?_
    refine W.seqK (by kernel_rfl) (fun K15 n15 e15 r15 p15 => ?_)
    refine W.region (by kernel_rfl) ?_
    replace hF := obind_some hF; obtain ⟨t10, e16, hF⟩ := hF
    refine WL.val (d := (some 10)) (v := t10) (h' := h_4) (by kernel_rfl) (by kernel_rfl) (Eq.trans (by kernel_rfl) (field_ptr (P := Try.prog) (h := h_4) (s := 28) (f := 0) (by kernel_rfl) e16)) ?_
    replace hF := obind_some hF; obtain ⟨v11, e17, hF⟩ := hF
    replace hF := obind_some hF; obtain ⟨t11, c18, hF⟩ := hF
    have c18 := avInt_some c18
    subst c18
    refine WL.val (d := (some 11)) (v := .int .i64 t11) (h' := h_4) (by kernel_rfl) (by kernel_rfl) (Eq.trans (by kernel_rfl) (load_cell (P := Try.prog) (h := h_4) (t := 3) (by kernel_rfl) e17)) ?_
    replace hF := obind_some hF; obtain ⟨t12, e19, hF⟩ := hF
    refine WL.val (d := (some 12)) (v := t12) (h' := h_4) (by kernel_rfl) (by kernel_rfl) (Eq.trans (by kernel_rfl) (field_ptr (P := Try.prog) (h := h_4) (s := 28) (f := 0) (by kernel_rfl) e19)) ?_
    replace hF := obind_some hF; obtain ⟨v13, e20, hF⟩ := hF
    replace hF := obind_some hF; obtain ⟨t13, c21, hF⟩ := hF
    have c21 := avInt_some c21
    subst c21
    refine WL.val (d := (some 13)) (v := .int .i64 t13) (h' := h_4) (by kernel_rfl) (by kernel_rfl) (Eq.trans (by kernel_rfl) (load_cell (P := Try.prog) (h := h_4) (t := 3) (by kernel_rfl) e20)) ?_
    replace hF := lett_some hF; obtain ⟨t14, e22, hF⟩ := hF
    refine WL.val (d := (some 14)) (v := .bool t14) (h' := h_4) (by kernel_rfl) (by kernel_rfl) (val_of AV.bool e22 (by kernel_rfl)) ?_
    refine WL.val (d := (some 4)) (v := .bool t14) (h' := h_4) (by kernel_rfl) (by kernel_rfl) (by kernel_rfl) ?_
    refine WL.nil (by kernel_rfl) ?_
    refine Go.weaken (l' := [(4, .bool t14)]) (Fr.sub_cons (by kernel_rfl) (Fr.sub_nil _)) ?_
    refine n15 ?_
    refine W.ret (by kernel_rfl) ?_
    refine r6 ?_
    obtain ⟨hF, hF2⟩ := ret_inj hF; subst hF; subst hF2
    exact leave_of (rs := [.tmp 4]) (vs := [.bool t14]) (by kernel_rfl) (res_tmp (by kernel_rfl) res_nil) (by kernel_rfl)
  | false =>
    replace hF := ifB_f hF
    refine W.cond_false (by kernel_rfl) (by kernel_rfl) ?_
    refine W.skip (by kernel_rfl) ?_
    refine n6 ?_
    refine W.seqK (by kernel_rfl) (fun K23 n23 e23 r23 p23 => ?_)
    refine W.region (by kernel_rfl) ?_
    replace hF := obind_some hF; obtain ⟨t15, e24, hF⟩ := hF
    refine WL.val (d := (some 15)) (v := t15) (h' := h_4) (by kernel_rfl) (by kernel_rfl) (Eq.trans (by kernel_rfl) (field_ptr (P := Try.prog) (h := h_4) (s := 28) (f := 1) (by kernel_rfl) e24)) ?_
    replace hF := obind_some hF; obtain ⟨v16, e25, hF⟩ := hF
    replace hF := obind_some hF; obtain ⟨t16, c26, hF⟩ := hF
    have c26 := avInt_some c26
    subst c26
    refine WL.val (d := (some 16)) (v := .int .i64 t16) (h' := h_4) (by kernel_rfl) (by kernel_rfl) (Eq.trans (by kernel_rfl) (load_cell (P := Try.prog) (h := h_4) (t := 3) (by kernel_rfl) e25)) ?_
    replace hF := obind_some hF; obtain ⟨t17, e27, hF⟩ := hF
    refine WL.val (d := (some 17)) (v := t17) (h' := h_4) (by kernel_rfl) (by kernel_rfl) (Eq.trans (by kernel_rfl) (field_ptr (P := Try.prog) (h := h_4) (s := 28) (f := 1) (by kernel_rfl) e27)) ?_
    replace hF := obind_some hF; obtain ⟨v18, e28, hF⟩ := hF
    replace hF := obind_some hF; obtain ⟨t18, c29, hF⟩ := hF
    have c29 := avInt_some c29
    subst c29
    refine WL.val (d := (some 18)) (v := .int .i64 t18) (h' := h_4) (by kernel_rfl) (by kernel_rfl) (Eq.trans (by kernel_rfl) (load_cell (P := Try.prog) (h := h_4) (t := 3) (by kernel_rfl) e28)) ?_
    replace hF := lett_some hF; obtain ⟨t19, e30, hF⟩ := hF
    refine WL.val (d := (some 19)) (v := .bool t19) (h' := h_4) (by kernel_rfl) (by kernel_rfl) (val_of AV.bool e30 (by kernel_rfl)) ?_
    refine WL.val (d := (some 4)) (v := .bool t19) (h' := h_4) (by kernel_rfl) (by kernel_rfl) (by kernel_rfl) ?_
    refine WL.nil (by kernel_rfl) ?_
    refine Go.weaken (l' := [(4, .bool t19)]) (Fr.sub_cons (by kernel_rfl) (Fr.sub_nil _)) ?_
    refine n23 ?_
    refine W.ret (by kernel_rfl) ?_
    obtain ⟨hF, hF2⟩ := ret_inj hF; subst hF; subst hF2
    exact leave_of (rs := [.tmp 4]) (vs := [.bool t19]) (by kernel_rfl) (res_tmp (by kernel_rfl) res_nil) (by kernel_rfl)
noncomputable def message_Above_fn (call : CallF) (n : Nat) : FnT := fun args h => match args with
  | [x0, x1] => obind (avAgg x0) fun t0 => obind (avAgg x1) fun t1 => message_Above call n t0 t1 h
  | _ => none
set_option maxRecDepth 100000 in
theorem message_Above_fn_eq (call : CallF) (n : Nat) (t0 : List AV) (t1 : List AV) (h : AHeap) : message_Above_fn call n [.agg t0, .agg t1] h = message_Above call n t0 t1 h :=
  (Eq.trans (obind_eq (fun t0 => obind (avAgg (.agg t1)) fun t1 => message_Above call n t0 t1 h) (avAgg_agg t0)) (Eq.trans (obind_eq (fun t1 => message_Above call n t0 t1 h) (avAgg_agg t1)) rfl))
theorem message_Above_holds {call : CallF} (hc : SaysAll Try.prog call) (n : Nat) : Holds Try.prog 13 (message_Above_fn call n) := by
  intro args h r h2 e
  unfold message_Above_fn at e
  split at e
  · replace e := obind_some e; obtain ⟨t0, c0, e⟩ := e; have c0 := avAgg_some c0; subst c0
    replace e := obind_some e; obtain ⟨t1, c1, e⟩ := e; have c1 := avAgg_some c1; subst c1
    exact message_Above_ok hc e
  · cases e

end Go.Proofs.Ytpjnjdplgigmpaa
