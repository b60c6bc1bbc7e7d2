/- Plain functions in place of the program's, and that their calls come to what they say. -/
import Derived.Test.YtcbnpdfingfmgaaFrame
import Derived.Test.YtcbnpdfingfmgaaAbs50
namespace Go.Proofs.Ytcbnpdfingfmgaa
open Go.RowKit Abs

noncomputable def law04_DiskSure_L0b (call : CallF) (t1 : AV) (r28 : AV) (t41 : Int) (k38 : AV → AHeap → R) (self : AV → Int → AHeap → R) (t10_121 : AV) (t42 : Int) (h_122 : AHeap) : R :=
  lett (decide (t42 < t41)) fun (t43 : Bool) =>
  ifB t43
  (
    lett (fun (t10_129 : AV) (h_130 : AHeap) =>
      lett (IntKind.i64.wrap (t42 + 1)) fun (t69 : Int) =>
      self t10_129 t69 h_130) fun k128 =>
    obind (idxP 5 t1 t42) fun t44 =>
    obind (ldRow h_122 5 t44) fun t45 =>
    lett (newH h_122 43 [.int .i64 0, .int .i64 0, .int .i64 0, .str 0 0, .nsl]) fun h_135 =>
    obind (stRow h_135 5 t45 (newP h_122)) fun h_137 =>
    obind (ldCell h_137 (AV.ptr (AHeap.next h_122) 0)) fun v47 =>
    obind (avInt .i64 v47) fun t47 =>
    obind (remI .i64 t47 2) fun t48 =>
    lett ((t48 : Int) == 0) fun (t49 : Bool) =>
    lett (fun (t13 : Int) (h_147 : AHeap) =>
      lett ((t13 : Int) != 0) fun (t59 : Bool) =>
      ifB t59
      (
        k128 t10_121 h_147)
      (
        callN (call 11 [r28, .int .i64 5] h_147) fun r62 h_152 =>
        obind (extT 0 r62) fun v63 =>
        obind (avStr v63) fun t63 =>
        obind (extT 1 r62) fun v64 =>
        obind (avInt .i64 v64) fun _ =>
        outK (bldSl Try.prog h_152 46 1 [(0, strA t63)]) fun v67 h_158 =>
        outK (opAppend Try.prog h_158 46 46 t10_121 v67) fun v68 h_160 =>
        k128 v68 h_160)) fun k146 =>
    ifB t49
    (
      obind (ldCell h_137 (AV.ptr (AHeap.next h_122) 3)) fun v52 =>
      obind (avStr v52) fun t52 =>
      callN (call 9 [r28, .int .i64 5, strA t52] h_137) fun r53 h_164 =>
      obind (avInt .i64 r53) fun t53 =>
      k146 t53 h_164)
    (
      obind (ldCell h_137 (AV.ptr (AHeap.next h_122) 2)) fun v56 =>
      obind (avInt .i64 v56) fun t56 =>
      callN (call 15 [r28, .int .i64 5, .int .i64 t56] h_137) fun r57 h_169 =>
      obind (avInt .i64 r57) fun t57 =>
      k146 t57 h_169))
  (
    k38 t10_121 h_122)
noncomputable def law04_DiskSure_L0 (call : CallF) (t1 : AV) (r28 : AV) (t41 : Int) (k38 : AV → AHeap → R) : Nat → AV → Int → AHeap → R := iterR (fun _ _ _ => none) (law04_DiskSure_L0b call t1 r28 t41 k38)
theorem law04_DiskSure_L0_s (call : CallF) (t1 : AV) (r28 : AV) (t41 : Int) (k38 : AV → AHeap → R) (m : Nat) : law04_DiskSure_L0 call t1 r28 t41 k38 (m + 1) = law04_DiskSure_L0b call t1 r28 t41 k38 (law04_DiskSure_L0 call t1 r28 t41 k38 m) := rfl
noncomputable def law04_DiskSure (call : CallF) (n : Nat) (t0 : Bytes) (t1 : AV) (t2 : Int) (t3 : Int) (h : AHeap) : R :=
  callN (call 7 [] h) fun r19 h_4 =>
  obind (avBool r19) fun t19 =>
  lett (!t19) fun (t20 : Bool) =>
  ifB t20
  (
    some (.ret (.bool false), h_4))
  (
    callN (call 22 [t1] h_4) fun r22 h_11 =>
    obind (avBool r22) fun t22 =>
    lett (fun (t27 : Bool) (h_14 : AHeap) =>
      ifB t27
      (
        some (.ret (.bool true), h_14))
      (
        callN (call 8 [] h_14) fun r28 h_19 =>
        callN (call 9 [r28, .int .i64 5, strA t0] h_19) fun r31 h_23 =>
        obind (avInt .i64 r31) fun t31 =>
        lett ((t31 : Int) != 0) fun (t32 : Bool) =>
        lett (fun (t37 : Bool) (h_27 : AHeap) =>
          ifB t37
          (
            some (.ret (.bool false), h_27))
          (
            outK (bldSl Try.prog h_27 46 1 [(0, strA t0)]) fun v39 h_32 =>
            obind (lenL t1) fun t41 =>
            lett (fun (t10 : AV) (h_39 : AHeap) =>
              lett (if 0 > t2 then 0 else t2) fun (t71 : Int) =>
              obind (lenL t10) fun t73 =>
              lett (IntKind.i64.wrap (t73 - 1)) fun (t74 : Int) =>
              lett (if t74 < t71 then t74 else t71) fun (t75 : Int) =>
              callN (call 13 [r28, .int .i64 5] h_39) fun r77 h_47 =>
              obind (avInt .i64 r77) fun t77 =>
              obind (lenL t10) fun t79 =>
              lett (IntKind.i64.wrap (t79 - 1)) fun (t80 : Int) =>
              lett ((t77 : Int) != t80) fun (t81 : Bool) =>
              lett (fun (t89 : Bool) (h_53 : AHeap) =>
                ifB t89
                (
                  some (.ret (.bool false), h_53))
                (
                  callN (call 11 [r28, .int .i64 5] h_53) fun r92 h_58 =>
                  obind (extT 0 r92) fun v93 =>
                  obind (avStr v93) fun t93 =>
                  obind (extT 1 r92) fun v94 =>
                  obind (avInt .i64 v94) fun t94 =>
                  lett (fun (t120 : Bool) (h_67 : AHeap) =>
                    ifB t120
                    (
                      some (.ret (.bool false), h_67))
                    (
                      obind (idxP 1 t10 t75) fun t125 =>
                      obind (ldCell h_67 t125) fun v126 =>
                      obind (avStr v126) fun t126 =>
                      lett (((lenS t93) : Int) == (lenS t126)) fun (t128 : Bool) =>
                      ifB t128
                      (
                        some (.ret (.bool true), h_67))
                      (
                        lett (decide (t3 > 0)) fun (t130 : Bool) =>
                        lett (fun (t137 : Bool) (h_78 : AHeap) =>
                          lett (fun (t148 : Bool) (h_81 : AHeap) =>
                            lett (fun (t160 : Bool) (h_84 : AHeap) =>
                              some (.ret (.bool t160), h_84)) fun j160 =>
                            ifB t148
                            (
                              lett (IntKind.i64.wrap (t75 + 1)) fun (t152 : Int) =>
                              obind (idxP 1 t10 t152) fun t153 =>
                              obind (ldCell h_81 t153) fun v154 =>
                              obind (avStr v154) fun t154 =>
                              obind (sliceS t154 0 (lenS t93)) fun t157 =>
                              lett (eqS t157 t93) fun (t159 : Bool) =>
                              j160 t159 h_81)
                            (
                              j160 false h_81)) fun j148 =>
                          ifB t137
                          (
                            lett (IntKind.i64.wrap (t75 + 1)) fun (t143 : Int) =>
                            obind (idxP 1 t10 t143) fun t144 =>
                            obind (ldCell h_78 t144) fun v145 =>
                            obind (avStr v145) fun t145 =>
                            lett (decide ((lenS t93) < (lenS t145))) fun (t147 : Bool) =>
                            j148 t147 h_78)
                          (
                            j148 false h_78)) fun j137 =>
                        ifB t130
                        (
                          lett (IntKind.i64.wrap (t75 + 1)) fun (t133 : Int) =>
                          obind (lenL t10) fun t135 =>
                          lett (decide (t133 < t135)) fun (t136 : Bool) =>
                          j137 t136 h_67)
                        (
                          j137 false h_67)))) fun k66 =>
                  lett ((t94 : Int) != 0) fun (t96 : Bool) =>
                  ifB t96
                  (
                    k66 true h_58)
                  (
                    obind (idxP 1 t10 t75) fun t102 =>
                    obind (ldCell h_58 t102) fun v103 =>
                    obind (avStr v103) fun t103 =>
                    lett (decide ((lenS t93) < (lenS t103))) fun (t105 : Bool) =>
                    ifB t105
                    (
                      k66 true h_58)
                    (
                      obind (idxP 1 t10 t75) fun t111 =>
                      obind (ldCell h_58 t111) fun v112 =>
                      obind (avStr v112) fun t112 =>
                      obind (sliceS t93 0 (lenS t112)) fun t114 =>
                      obind (idxP 1 t10 t75) fun t117 =>
                      obind (ldCell h_58 t117) fun v118 =>
                      obind (avStr v118) fun t118 =>
                      lett (!eqS t114 t118) fun (t119 : Bool) =>
                      k66 t119 h_58)))) fun j89 =>
              ifB t81
              (
                j89 true h_47)
              (
                outK (bldSl Try.prog h_47 34 6 [(0, .int .i64 9), (1, .int .i64 9), (2, .int .i64 9), (3, .int .i64 9), (4, .int .i64 9), (5, .int .i64 t2)]) fun v85 h_114 =>
                callN (call 14 [r28, v85, .int .i64 t3] h_114) fun r87 h_116 =>
                obind (avInt .i64 r87) fun t87 =>
                lett ((t87 : Int) != 0) fun (t88 : Bool) =>
                j89 t88 h_116)) fun k38 =>
            law04_DiskSure_L0 call t1 r28 t41 k38 n v39 0 h_32)) fun j37 =>
        ifB t32
        (
          j37 true h_23)
        (
          callN (call 10 [r28, .int .i64 5] h_23) fun r35 h_172 =>
          obind (avInt .i64 r35) fun t35 =>
          lett ((t35 : Int) != 0) fun (t36 : Bool) =>
          j37 t36 h_172))) fun j27 =>
    ifB t22
    (
      j27 true h_11)
    (
      lett (decide ((lenS t0) > 16384)) fun (t26 : Bool) =>
      j27 t26 h_11))
set_option maxHeartbeats 4000000 in
set_option maxRecDepth 20000 in
theorem law04_DiskSure_ok {call : CallF} (hc : SaysAll Try.prog call) {n : Nat} {t0 : Bytes} {t1 : AV} {t2 : Int} {t3 : Int} {h : AHeap} {rR : ARes} {hR : AHeap} (hF : law04_DiskSure call n t0 t1 t2 t3 h = some (rR, hR)) : Says Try.prog 5 [strA t0, t1, .int .i64 t2, .int .i64 t3] h rR hR := by
  unfold law04_DiskSure at hF
  refine says_of (fn := Try.f5) Try.func5 (c := codeOf Try.f5) (by kernel_rfl) (by kernel_rfl) (fun w0 m0 => ?_)
  refine W.weaken (l' := [(0, strA t0), (1, t1), (2, .int .i64 t2), (3, .int .i64 t3)]) (Fr.sub_cons (by kernel_rfl) (Fr.sub_cons (by kernel_rfl) (Fr.sub_cons (by kernel_rfl) (Fr.sub_cons (by kernel_rfl) (Fr.sub_nil _))))) ?_
  refine W.seqK (by kernel_rfl) (fun K1 n1 e1 q1 p1 => ?_)
  refine W.region (by kernel_rfl) ?_
  refine WL.val (d := (some 8)) (v := .bool false) (h' := h) (by kernel_rfl) (by kernel_rfl) (by kernel_rfl) ?_
  refine WL.nil (by kernel_rfl) ?_
  refine Go.weaken (l' := [(0, strA t0), (1, t1), (2, .int .i64 t2), (3, .int .i64 t3)]) (Fr.sub_cons (by kernel_rfl) (Fr.sub_cons (by kernel_rfl) (Fr.sub_cons (by kernel_rfl) (Fr.sub_cons (by kernel_rfl) (Fr.sub_nil _))))) ?_
  refine n1 ?_
  refine W.seqK (by kernel_rfl) (fun K2 n2 e2 q2 p2 => ?_)
  refine W.seqK (by kernel_rfl) (fun K3 n3 e3 q3 p3 => ?_)
  refine W.region (by kernel_rfl) ?_
  replace hF := callN_some hF; obtain ⟨r19, h_4, e5, hF⟩ := hF
  replace hF := obind_some hF; obtain ⟨t19, c6, hF⟩ := hF
  have c6 := avBool_some c6
  subst c6
  refine WL.call (hc.ok w0) (d := (some 19)) (by kernel_rfl) (by kernel_rfl) (by kernel_rfl) e5 ?_
  replace hF := lett_some hF; obtain ⟨t20, e7, hF⟩ := hF
  refine WL.val (d := (some 20)) (v := .bool t20) (h' := h_4) (by kernel_rfl) (by kernel_rfl) (val_of AV.bool e7 (by kernel_rfl)) ?_
  refine WL.nil (by kernel_rfl) ?_
  refine Go.weaken (l' := [(0, strA t0), (1, t1), (2, .int .i64 t2), (3, .int .i64 t3), (20, .bool t20)]) (Fr.sub_cons (by kernel_rfl) (Fr.sub_cons (by kernel_rfl) (Fr.sub_cons (by kernel_rfl) (Fr.sub_cons (by kernel_rfl) (Fr.sub_cons (by kernel_rfl) (Fr.sub_nil _)))))) ?_
  refine n3 ?_
  cases t20 with
  | true =>
    replace hF := ifB_t hF
    refine W.cond_true (by kernel_rfl) (by kernel_rfl) ?_
    refine W.seqK (by kernel_rfl) (fun K8 n8 e8 q8 p8 => ?_)
    refine W.region (by kernel_rfl) ?_
    refine WL.val (d := (some 8)) (v := .bool false) (h' := h_4) (by kernel_rfl) (by kernel_rfl) (by kernel_rfl) ?_
    refine WL.nil (by kernel_rfl) ?_
    refine Go.weaken (l' := [(8, .bool false)]) (Fr.sub_cons (by kernel_rfl) (Fr.sub_nil _)) ?_
    refine n8 ?_
    refine W.ret (by kernel_rfl) ?_
    refine q2 ?_
    obtain ⟨hF, hF2⟩ := ret_inj hF; subst hF; subst hF2
    exact leave_of (rs := [.tmp 8]) (vs := [.bool false]) (by kernel_rfl) (res_tmp (by kernel_rfl) res_nil) (by kernel_rfl)
  | false =>
    replace hF := ifB_f hF
    refine W.cond_false (by kernel_rfl) (by kernel_rfl) ?_
    refine W.skip (by kernel_rfl) ?_
    refine n2 ?_
    refine W.seqK (by kernel_rfl) (fun K9 n9 e9 q9 p9 => ?_)
    refine W.seqK (by kernel_rfl) (fun K10 n10 e10 q10 p10 => ?_)
    refine W.region (by kernel_rfl) ?_
    refine WL.val (d := (some 21)) (v := t1) (h' := h_4) (by kernel_rfl) (by kernel_rfl) (by kernel_rfl) ?_
    replace hF := callN_some hF; obtain ⟨r22, h_11, e12, hF⟩ := hF
    replace hF := obind_some hF; obtain ⟨t22, c13, hF⟩ := hF
    have c13 := avBool_some c13
    subst c13
    refine WL.call (hc.ok w0) (d := (some 22)) (by kernel_rfl) (by kernel_rfl) (by kernel_rfl) e12 ?_
    refine WL.val (d := (some 23)) (v := .bool t22) (h' := h_11) (by kernel_rfl) (by kernel_rfl) (by kernel_rfl) ?_
    replace hF := lett_some hF; obtain ⟨j27, e15, hF⟩ := hF
    have J16 : ∀ (t27 : Bool) (h_14 : AHeap), j27 t27 h_14 = some (rR, hR) → WL Try.prog w0 m0 (Func.ntmps Try.f5) (Code.ops (Code.p1 (Code.p1 (Code.p2 (Code.p2 (codeOf Try.f5)))))) 7 K10 [(0, strA t0), (1, t1), (2, .int .i64 t2), (3, .int .i64 t3), (27, .bool t27)] [] h_14 := by
      intro t27 h_14 hF
      rw [e15] at hF
      refine WL.nil (by kernel_rfl) ?_
      refine Go.weaken (l' := [(0, strA t0), (1, t1), (2, .int .i64 t2), (3, .int .i64 t3), (27, .bool t27)]) (Fr.sub_cons (by kernel_rfl) (Fr.sub_cons (by kernel_rfl) (Fr.sub_cons (by kernel_rfl) (Fr.sub_cons (by kernel_rfl) (Fr.sub_cons (by kernel_rfl) (Fr.sub_nil _)))))) ?_
      refine n10 ?_
      cases t27 with
      | true =>
        replace hF := ifB_t hF
        refine W.cond_true (by kernel_rfl) (by kernel_rfl) ?_
        refine W.seqK (by kernel_rfl) (fun K17 n17 e17 q17 p17 => ?_)
        refine W.region (by kernel_rfl) ?_
        refine WL.val (d := (some 8)) (v := .bool true) (h' := h_14) (by kernel_rfl) (by kernel_rfl) (by kernel_rfl) ?_
        refine WL.nil (by kernel_rfl) ?_
        refine Go.weaken (l' := [(8, .bool true)]) (Fr.sub_cons (by kernel_rfl) (Fr.sub_nil _)) ?_
        refine n17 ?_
        refine W.ret (by kernel_rfl) ?_
        refine q9 ?_
        obtain ⟨hF, hF2⟩ := ret_inj hF; subst hF; subst hF2
        exact leave_of (rs := [.tmp 8]) (vs := [.bool true]) (by kernel_rfl) (res_tmp (by kernel_rfl) res_nil) (by kernel_rfl)
      | false =>
        replace hF := ifB_f hF
        refine W.cond_false (by kernel_rfl) (by kernel_rfl) ?_
        refine W.skip (by kernel_rfl) ?_
        refine n9 ?_
        refine W.seqK (by kernel_rfl) (fun K18 n18 e18 q18 p18 => ?_)
        refine W.region (by kernel_rfl) ?_
        replace hF := callN_some hF; obtain ⟨r28, h_19, e20, hF⟩ := hF
        refine WL.call (hc.ok w0) (d := (some 28)) (by kernel_rfl) (by kernel_rfl) (by kernel_rfl) e20 ?_
        refine WL.val (d := (some 9)) (v := r28) (h' := h_19) (by kernel_rfl) (by kernel_rfl) (by kernel_rfl) ?_
        refine WL.nil (by kernel_rfl) ?_
        refine Go.weaken (l' := [(0, strA t0), (1, t1), (2, .int .i64 t2), (3, .int .i64 t3), (9, r28)]) (Fr.sub_cons (by kernel_rfl) (Fr.sub_cons (by kernel_rfl) (Fr.sub_cons (by kernel_rfl) (Fr.sub_cons (by kernel_rfl) (Fr.sub_cons (by kernel_rfl) (Fr.sub_nil _)))))) ?_
        refine n18 ?_
        refine W.seqK (by kernel_rfl) (fun K21 n21 e21 q21 p21 => ?_)
        refine W.seqK (by kernel_rfl) (fun K22 n22 e22 q22 p22 => ?_)
        refine W.region (by kernel_rfl) ?_
        refine WL.val (d := (some 29)) (v := r28) (h' := h_19) (by kernel_rfl) (by kernel_rfl) (by kernel_rfl) ?_
        refine WL.val (d := (some 30)) (v := strA t0) (h' := h_19) (by kernel_rfl) (by kernel_rfl) (by kernel_rfl) ?_
        replace hF := callN_some hF; obtain ⟨r31, h_23, e24, hF⟩ := hF
        replace hF := obind_some hF; obtain ⟨t31, c25, hF⟩ := hF
        have c25 := avInt_some c25
        subst c25
        refine WL.call (hc.ok w0) (d := (some 31)) (by kernel_rfl) (by kernel_rfl) (by kernel_rfl) e24 ?_
        replace hF := lett_some hF; obtain ⟨t32, e26, hF⟩ := hF
        refine WL.val (d := (some 32)) (v := .bool t32) (h' := h_23) (by kernel_rfl) (by kernel_rfl) (val_of AV.bool e26 (by kernel_rfl)) ?_
        refine WL.val (d := (some 33)) (v := .bool t32) (h' := h_23) (by kernel_rfl) (by kernel_rfl) (by kernel_rfl) ?_
        replace hF := lett_some hF; obtain ⟨j37, e28, hF⟩ := hF
        have J29 : ∀ (t37 : Bool) (h_27 : AHeap), j37 t37 h_27 = some (rR, hR) → WL Try.prog w0 m0 (Func.ntmps Try.f5) (Code.ops (Code.p1 (Code.p1 (Code.p2 (Code.p2 (Code.p2 (Code.p2 (codeOf Try.f5)))))))) 9 K22 [(0, strA t0), (1, t1), (2, .int .i64 t2), (3, .int .i64 t3), (9, r28), (37, .bool t37)] [] h_27 := by
          intro t37 h_27 hF
          rw [e28] at hF
          refine WL.nil (by kernel_rfl) ?_
          refine Go.weaken (l' := [(0, strA t0), (1, t1), (2, .int .i64 t2), (3, .int .i64 t3), (9, r28), (37, .bool t37)]) (Fr.sub_cons (by kernel_rfl) (Fr.sub_cons (by kernel_rfl) (Fr.sub_cons (by kernel_rfl) (Fr.sub_cons (by kernel_rfl) (Fr.sub_cons (by kernel_rfl) (Fr.sub_cons (by kernel_rfl) (Fr.sub_nil _))))))) ?_
          refine n22 ?_
          cases t37 with
          | true =>
            replace hF := ifB_t hF
            refine W.cond_true (by kernel_rfl) (by kernel_rfl) ?_
            refine W.seqK (by kernel_rfl) (fun K30 n30 e30 q30 p30 => ?_)
            refine W.region (by kernel_rfl) ?_
            refine WL.val (d := (some 8)) (v := .bool false) (h' := h_27) (by kernel_rfl) (by kernel_rfl) (by kernel_rfl) ?_
            refine WL.nil (by kernel_rfl) ?_
            refine Go.weaken (l' := [(8, .bool false)]) (Fr.sub_cons (by kernel_rfl) (Fr.sub_nil _)) ?_
            refine n30 ?_
            refine W.ret (by kernel_rfl) ?_
            refine q21 ?_
            obtain ⟨hF, hF2⟩ := ret_inj hF; subst hF; subst hF2
            exact leave_of (rs := [.tmp 8]) (vs := [.bool false]) (by kernel_rfl) (res_tmp (by kernel_rfl) res_nil) (by kernel_rfl)
          | false =>
            replace hF := ifB_f hF
            refine W.cond_false (by kernel_rfl) (by kernel_rfl) ?_
            refine W.skip (by kernel_rfl) ?_
            refine n21 ?_
            refine W.seqK (by kernel_rfl) (fun K31 n31 e31 q31 p31 => ?_)
            refine W.region (by kernel_rfl) ?_
            refine WL.val (d := (some 38)) (v := strA t0) (h' := h_27) (by kernel_rfl) (by kernel_rfl) (by kernel_rfl) ?_
            replace hF := outK_some hF; obtain ⟨v39, h_32, e33, hF⟩ := hF
            refine WL.val (d := (some 39)) (v := v39) (h' := h_32) (by kernel_rfl) (by kernel_rfl) (Eq.trans (by kernel_rfl) e33) ?_
            refine WL.val (d := (some 10)) (v := v39) (h' := h_32) (by kernel_rfl) (by kernel_rfl) (by kernel_rfl) ?_
            refine WL.nil (by kernel_rfl) ?_
            refine Go.weaken (l' := [(1, t1), (2, .int .i64 t2), (3, .int .i64 t3), (9, r28), (10, v39)]) (Fr.sub_cons (by kernel_rfl) (Fr.sub_cons (by kernel_rfl) (Fr.sub_cons (by kernel_rfl) (Fr.sub_cons (by kernel_rfl) (Fr.sub_cons (by kernel_rfl) (Fr.sub_nil _)))))) ?_
            refine n31 ?_
            refine W.seqK (by kernel_rfl) (fun K34 n34 e34 q34 p34 => ?_)
            refine W.seqK (by kernel_rfl) (fun K35 n35 e35 q35 p35 => ?_)
            refine W.region (by kernel_rfl) ?_
            refine WL.val (d := (some 40)) (v := t1) (h' := h_32) (by kernel_rfl) (by kernel_rfl) (by kernel_rfl) ?_
            replace hF := obind_some hF; obtain ⟨t41, e36, hF⟩ := hF
            refine WL.val (d := (some 41)) (v := .int .i64 t41) (h' := h_32) (by kernel_rfl) (by kernel_rfl) (Eq.trans (by kernel_rfl) (len_row (P := Try.prog) (h := h_32) (t := 38) (e' := 43) (by kernel_rfl) e36)) ?_
            refine WL.val (d := (some 42)) (v := .int .i64 0) (h' := h_32) (by kernel_rfl) (by kernel_rfl) (by kernel_rfl) ?_
            refine WL.nil (by kernel_rfl) ?_
            refine Go.weaken (l' := [(2, .int .i64 t2), (3, .int .i64 t3), (9, r28), (10, v39), (40, t1), (41, .int .i64 t41), (42, .int .i64 0)]) (Fr.sub_cons (by kernel_rfl) (Fr.sub_cons (by kernel_rfl) (Fr.sub_cons (by kernel_rfl) (Fr.sub_cons (by kernel_rfl) (Fr.sub_cons (by kernel_rfl) (Fr.sub_cons (by kernel_rfl) (Fr.sub_cons (by kernel_rfl) (Fr.sub_nil _)))))))) ?_
            refine n35 ?_
            replace hF := lett_some hF; obtain ⟨k38, e38, hF⟩ := hF
            have J38 : ∀ (t10 : AV) (h_39 : AHeap), k38 t10 h_39 = some (rR, hR) → Go w0 m0 (Func.ntmps Try.f5) (K34 .normal) [(2, .int .i64 t2), (3, .int .i64 t3), (9, r28), (10, t10)] [] h_39 := by
              intro t10 h_39 hF
              rw [e38] at hF
              refine n34 ?_
              refine W.seqK (by kernel_rfl) (fun K40 n40 e40 q40 p40 => ?_)
              refine W.region (by kernel_rfl) ?_
              refine WL.val (d := (some 70)) (v := .int .i64 t2) (h' := h_39) (by kernel_rfl) (by kernel_rfl) (by kernel_rfl) ?_
              replace hF := lett_some hF; obtain ⟨t71, e41, hF⟩ := hF
              refine WL.val (d := (some 71)) (v := .int .i64 t71) (h' := h_39) (by kernel_rfl) (by kernel_rfl) (val_of (AV.int .i64) e41 (by kernel_rfl)) ?_
              refine WL.val (d := (some 72)) (v := t10) (h' := h_39) (by kernel_rfl) (by kernel_rfl) (by kernel_rfl) ?_
              replace hF := obind_some hF; obtain ⟨t73, e42, hF⟩ := hF
              refine WL.val (d := (some 73)) (v := .int .i64 t73) (h' := h_39) (by kernel_rfl) (by kernel_rfl) (Eq.trans (by kernel_rfl) (len_row (P := Try.prog) (h := h_39) (t := 46) (e' := 9) (by kernel_rfl) e42)) ?_
              replace hF := lett_some hF; obtain ⟨t74, e43, hF⟩ := hF
              refine WL.val (d := (some 74)) (v := .int .i64 t74) (h' := h_39) (by kernel_rfl) (by kernel_rfl) (val_of (AV.int .i64) e43 (by kernel_rfl)) ?_
              replace hF := lett_some hF; obtain ⟨t75, e44, hF⟩ := hF
              refine WL.val (d := (some 75)) (v := .int .i64 t75) (h' := h_39) (by kernel_rfl) (by kernel_rfl) (val_of (AV.int .i64) e44 (by kernel_rfl)) ?_
              refine WL.val (d := (some 16)) (v := .int .i64 t75) (h' := h_39) (by kernel_rfl) (by kernel_rfl) (by kernel_rfl) ?_
              refine WL.nil (by kernel_rfl) ?_
              refine Go.weaken (l' := [(2, .int .i64 t2), (3, .int .i64 t3), (9, r28), (10, t10), (16, .int .i64 t75)]) (Fr.sub_cons (by kernel_rfl) (Fr.sub_cons (by kernel_rfl) (Fr.sub_cons (by kernel_rfl) (Fr.sub_cons (by kernel_rfl) (Fr.sub_cons (by kernel_rfl) (Fr.sub_nil _)))))) ?_
              refine n40 ?_
              refine W.seqK (by kernel_rfl) (fun K45 n45 e45 q45 p45 => ?_)
              refine W.seqK (by kernel_rfl) (fun K46 n46 e46 q46 p46 => ?_)
              refine W.region (by kernel_rfl) ?_
              refine WL.val (d := (some 76)) (v := r28) (h' := h_39) (by kernel_rfl) (by kernel_rfl) (by kernel_rfl) ?_
              replace hF := callN_some hF; obtain ⟨r77, h_47, e48, hF⟩ := hF
              replace hF := obind_some hF; obtain ⟨t77, c49, hF⟩ := hF
              have c49 := avInt_some c49
              subst c49
              refine WL.call (hc.ok w0) (d := (some 77)) (by kernel_rfl) (by kernel_rfl) (by kernel_rfl) e48 ?_
              refine WL.val (d := (some 78)) (v := t10) (h' := h_47) (by kernel_rfl) (by kernel_rfl) (by kernel_rfl) ?_
              replace hF := obind_some hF; obtain ⟨t79, e50, hF⟩ := hF
              refine WL.val (d := (some 79)) (v := .int .i64 t79) (h' := h_47) (by kernel_rfl) (by kernel_rfl) (Eq.trans (by kernel_rfl) (len_row (P := Try.prog) (h := h_47) (t := 46) (e' := 9) (by kernel_rfl) e50)) ?_
              replace hF := lett_some hF; obtain ⟨t80, e51, hF⟩ := hF
              refine WL.val (d := (some 80)) (v := .int .i64 t80) (h' := h_47) (by kernel_rfl) (by kernel_rfl) (val_of (AV.int .i64) e51 (by kernel_rfl)) ?_
              replace hF := lett_some hF; obtain ⟨t81, e52, hF⟩ := hF
              refine WL.val (d := (some 81)) (v := .bool t81) (h' := h_47) (by kernel_rfl) (by kernel_rfl) (val_of AV.bool e52 (by kernel_rfl)) ?_
              refine WL.val (d := (some 82)) (v := .bool t81) (h' := h_47) (by kernel_rfl) (by kernel_rfl) (by kernel_rfl) ?_
              replace hF := lett_some hF; obtain ⟨j89, e54, hF⟩ := hF
              have J55 : ∀ (t89 : Bool) (h_53 : AHeap), j89 t89 h_53 = some (rR, hR) → WL Try.prog w0 m0 (Func.ntmps Try.f5) (Code.ops (Code.p1 (Code.p1 (Code.p2 (Code.p2 (Code.p2 (Code.p2 (Code.p2 (Code.p2 (Code.p2 (Code.p2 (codeOf Try.f5)))))))))))) 14 K46 [(3, .int .i64 t3), (9, r28), (10, t10), (16, .int .i64 t75), (89, .bool t89)] [] h_53 := by
                intro t89 h_53 hF
                rw [e54] at hF
                refine WL.nil (by kernel_rfl) ?_
                refine Go.weaken (l' := [(3, .int .i64 t3), (9, r28), (10, t10), (16, .int .i64 t75), (89, .bool t89)]) (Fr.sub_cons (by kernel_rfl) (Fr.sub_cons (by kernel_rfl) (Fr.sub_cons (by kernel_rfl) (Fr.sub_cons (by kernel_rfl) (Fr.sub_cons (by kernel_rfl) (Fr.sub_nil _)))))) ?_
                refine n46 ?_
                cases t89 with
                | true =>
                  replace hF := ifB_t hF
                  refine W.cond_true (by kernel_rfl) (by kernel_rfl) ?_
                  refine W.seqK (by kernel_rfl) (fun K56 n56 e56 q56 p56 => ?_)
                  refine W.region (by kernel_rfl) ?_
                  refine WL.val (d := (some 8)) (v := .bool false) (h' := h_53) (by kernel_rfl) (by kernel_rfl) (by kernel_rfl) ?_
                  refine WL.nil (by kernel_rfl) ?_
                  refine Go.weaken (l' := [(8, .bool false)]) (Fr.sub_cons (by kernel_rfl) (Fr.sub_nil _)) ?_
                  refine n56 ?_
                  refine W.ret (by kernel_rfl) ?_
                  refine q45 ?_
                  obtain ⟨hF, hF2⟩ := ret_inj hF; subst hF; subst hF2
                  exact leave_of (rs := [.tmp 8]) (vs := [.bool false]) (by kernel_rfl) (res_tmp (by kernel_rfl) res_nil) (by kernel_rfl)
                | false =>
                  replace hF := ifB_f hF
                  refine W.cond_false (by kernel_rfl) (by kernel_rfl) ?_
                  refine W.skip (by kernel_rfl) ?_
                  refine n45 ?_
                  refine W.seqK (by kernel_rfl) (fun K57 n57 e57 q57 p57 => ?_)
                  refine W.region (by kernel_rfl) ?_
                  refine WL.val (d := (some 91)) (v := r28) (h' := h_53) (by kernel_rfl) (by kernel_rfl) (by kernel_rfl) ?_
                  replace hF := callN_some hF; obtain ⟨r92, h_58, e59, hF⟩ := hF
                  refine WL.call (hc.ok w0) (d := (some 92)) (by kernel_rfl) (by kernel_rfl) (by kernel_rfl) e59 ?_
                  refine WL.val (d := (some 90)) (v := r92) (h' := h_58) (by kernel_rfl) (by kernel_rfl) (by kernel_rfl) ?_
                  replace hF := obind_some hF; obtain ⟨v93, e60, hF⟩ := hF
                  replace hF := obind_some hF; obtain ⟨t93, c61, hF⟩ := hF
                  have c61 := avStr_some c61
                  subst c61
                  refine WL.val (d := (some 93)) (v := strA t93) (h' := h_58) (by kernel_rfl) (by kernel_rfl) (Eq.trans (by kernel_rfl) (extract_tup (h := h_58) e60)) ?_
                  replace hF := obind_some hF; obtain ⟨v94, e62, hF⟩ := hF
                  replace hF := obind_some hF; obtain ⟨t94, c63, hF⟩ := hF
                  have c63 := avInt_some c63
                  subst c63
                  refine WL.val (d := (some 94)) (v := .int .i64 t94) (h' := h_58) (by kernel_rfl) (by kernel_rfl) (Eq.trans (by kernel_rfl) (extract_tup (h := h_58) e62)) ?_
                  refine WL.val (d := (some 17)) (v := strA t93) (h' := h_58) (by kernel_rfl) (by kernel_rfl) (by kernel_rfl) ?_
                  refine WL.val (d := (some 18)) (v := .int .i64 t94) (h' := h_58) (by kernel_rfl) (by kernel_rfl) (by kernel_rfl) ?_
                  refine WL.nil (by kernel_rfl) ?_
                  refine Go.weaken (l' := [(3, .int .i64 t3), (10, t10), (16, .int .i64 t75), (17, strA t93), (18, .int .i64 t94)]) (Fr.sub_cons (by kernel_rfl) (Fr.sub_cons (by kernel_rfl) (Fr.sub_cons (by kernel_rfl) (Fr.sub_cons (by kernel_rfl) (Fr.sub_cons (by kernel_rfl) (Fr.sub_nil _)))))) ?_
                  refine n57 ?_
                  refine W.seqK (by kernel_rfl) (fun K64 n64 e64 q64 p64 => ?_)
                  refine W.seqK (by kernel_rfl) (fun K65 n65 e65 q65 p65 => ?_)
                  replace hF := lett_some hF; obtain ⟨k66, e66, hF⟩ := hF
                  have J66 : ∀ (t120 : Bool) (h_67 : AHeap), k66 t120 h_67 = some (rR, hR) → Go w0 m0 (Func.ntmps Try.f5) (K65 .normal) [(3, .int .i64 t3), (10, t10), (16, .int .i64 t75), (17, strA t93), (120, .bool t120)] [] h_67 := by
                    intro t120 h_67 hF
                    rw [e66] at hF
                    refine n65 ?_
                    cases t120 with
                    | true =>
                      replace hF := ifB_t hF
                      refine W.cond_true (by kernel_rfl) (by kernel_rfl) ?_
                      refine W.seqK (by kernel_rfl) (fun K68 n68 e68 q68 p68 => ?_)
                      refine W.region (by kernel_rfl) ?_
                      refine WL.val (d := (some 8)) (v := .bool false) (h' := h_67) (by kernel_rfl) (by kernel_rfl) (by kernel_rfl) ?_
                      refine WL.nil (by kernel_rfl) ?_
                      refine Go.weaken (l' := [(8, .bool false)]) (Fr.sub_cons (by kernel_rfl) (Fr.sub_nil _)) ?_
                      refine n68 ?_
                      refine W.ret (by kernel_rfl) ?_
                      refine q64 ?_
                      obtain ⟨hF, hF2⟩ := ret_inj hF; subst hF; subst hF2
                      exact leave_of (rs := [.tmp 8]) (vs := [.bool false]) (by kernel_rfl) (res_tmp (by kernel_rfl) res_nil) (by kernel_rfl)
                    | false =>
                      replace hF := ifB_f hF
                      refine W.cond_false (by kernel_rfl) (by kernel_rfl) ?_
                      refine W.skip (by kernel_rfl) ?_
                      refine n64 ?_
                      refine W.seqK (by kernel_rfl) (fun K69 n69 e69 q69 p69 => ?_)
                      refine W.seqK (by kernel_rfl) (fun K70 n70 e70 q70 p70 => ?_)
                      refine W.region (by kernel_rfl) ?_
                      refine WL.val (d := (some 121)) (v := strA t93) (h' := h_67) (by kernel_rfl) (by kernel_rfl) (by kernel_rfl) ?_
                      refine WL.val (d := (some 122)) (v := .int .i64 (lenS t93)) (h' := h_67) (by kernel_rfl) (by kernel_rfl) (by kernel_rfl) ?_
                      refine WL.val (d := (some 123)) (v := t10) (h' := h_67) (by kernel_rfl) (by kernel_rfl) (by kernel_rfl) ?_
                      refine WL.val (d := (some 124)) (v := .int .i64 t75) (h' := h_67) (by kernel_rfl) (by kernel_rfl) (by kernel_rfl) ?_
                      replace hF := obind_some hF; obtain ⟨t125, e71, hF⟩ := hF
                      refine WL.val (d := (some 125)) (v := t125) (h' := h_67) (by kernel_rfl) (by kernel_rfl) (Eq.trans (by kernel_rfl) (index_row (P := Try.prog) (h := h_67) (t := 46) (e' := 9) (k := .i64) (by kernel_rfl) (by kernel_rfl) (by kernel_rfl) e71)) ?_
                      replace hF := obind_some hF; obtain ⟨v126, e72, hF⟩ := hF
                      replace hF := obind_some hF; obtain ⟨t126, c73, hF⟩ := hF
                      have c73 := avStr_some c73
                      subst c73
                      refine WL.val (d := (some 126)) (v := strA t126) (h' := h_67) (by kernel_rfl) (by kernel_rfl) (Eq.trans (by kernel_rfl) (load_cell (P := Try.prog) (h := h_67) (t := 9) (by kernel_rfl) e72)) ?_
                      refine WL.val (d := (some 127)) (v := .int .i64 (lenS t126)) (h' := h_67) (by kernel_rfl) (by kernel_rfl) (by kernel_rfl) ?_
                      replace hF := lett_some hF; obtain ⟨t128, e74, hF⟩ := hF
                      refine WL.val (d := (some 128)) (v := .bool t128) (h' := h_67) (by kernel_rfl) (by kernel_rfl) (val_of AV.bool e74 (by kernel_rfl)) ?_
                      refine WL.nil (by kernel_rfl) ?_
                      refine Go.weaken (l' := [(3, .int .i64 t3), (10, t10), (16, .int .i64 t75), (17, strA t93), (128, .bool t128)]) (Fr.sub_cons (by kernel_rfl) (Fr.sub_cons (by kernel_rfl) (Fr.sub_cons (by kernel_rfl) (Fr.sub_cons (by kernel_rfl) (Fr.sub_cons (by kernel_rfl) (Fr.sub_nil _)))))) ?_
                      refine n70 ?_
                      cases t128 with
                      | true =>
                        replace hF := ifB_t hF
                        refine W.cond_true (by kernel_rfl) (by kernel_rfl) ?_
                        refine W.seqK (by kernel_rfl) (fun K75 n75 e75 q75 p75 => ?_)
                        refine W.region (by kernel_rfl) ?_
                        refine WL.val (d := (some 8)) (v := .bool true) (h' := h_67) (by kernel_rfl) (by kernel_rfl) (by kernel_rfl) ?_
                        refine WL.nil (by kernel_rfl) ?_
                        refine Go.weaken (l' := [(8, .bool true)]) (Fr.sub_cons (by kernel_rfl) (Fr.sub_nil _)) ?_
                        refine n75 ?_
                        refine W.ret (by kernel_rfl) ?_
                        refine q69 ?_
                        obtain ⟨hF, hF2⟩ := ret_inj hF; subst hF; subst hF2
                        exact leave_of (rs := [.tmp 8]) (vs := [.bool true]) (by kernel_rfl) (res_tmp (by kernel_rfl) res_nil) (by kernel_rfl)
                      | false =>
                        replace hF := ifB_f hF
                        refine W.cond_false (by kernel_rfl) (by kernel_rfl) ?_
                        refine W.skip (by kernel_rfl) ?_
                        refine n69 ?_
                        refine W.seqK (by kernel_rfl) (fun K76 n76 e76 q76 p76 => ?_)
                        refine W.region (by kernel_rfl) ?_
                        refine WL.val (d := (some 129)) (v := .int .i64 t3) (h' := h_67) (by kernel_rfl) (by kernel_rfl) (by kernel_rfl) ?_
                        replace hF := lett_some hF; obtain ⟨t130, e77, hF⟩ := hF
                        refine WL.val (d := (some 130)) (v := .bool t130) (h' := h_67) (by kernel_rfl) (by kernel_rfl) (val_of AV.bool e77 (by kernel_rfl)) ?_
                        refine WL.val (d := (some 131)) (v := .bool t130) (h' := h_67) (by kernel_rfl) (by kernel_rfl) (by kernel_rfl) ?_
                        replace hF := lett_some hF; obtain ⟨j137, e79, hF⟩ := hF
                        have J80 : ∀ (t137 : Bool) (h_78 : AHeap), j137 t137 h_78 = some (rR, hR) → WL Try.prog w0 m0 (Func.ntmps Try.f5) (Code.ops (Code.p1 (Code.p2 (Code.p2 (Code.p2 (Code.p2 (Code.p2 (Code.p2 (Code.p2 (Code.p2 (Code.p2 (Code.p2 (Code.p2 (Code.p2 (codeOf Try.f5))))))))))))))) 9 K76 [(10, t10), (16, .int .i64 t75), (17, strA t93), (137, .bool t137)] [] h_78 := by
                          intro t137 h_78 hF
                          rw [e79] at hF
                          refine WL.val (d := (some 138)) (v := .bool t137) (h' := h_78) (by kernel_rfl) (by kernel_rfl) (by kernel_rfl) ?_
                          replace hF := lett_some hF; obtain ⟨j148, e82, hF⟩ := hF
                          have J83 : ∀ (t148 : Bool) (h_81 : AHeap), j148 t148 h_81 = some (rR, hR) → WL Try.prog w0 m0 (Func.ntmps Try.f5) (Code.ops (Code.p1 (Code.p2 (Code.p2 (Code.p2 (Code.p2 (Code.p2 (Code.p2 (Code.p2 (Code.p2 (Code.p2 (Code.p2 (Code.p2 (Code.p2 (codeOf Try.f5))))))))))))))) 20 K76 [(10, t10), (16, .int .i64 t75), (17, strA t93), (148, .bool t148)] [] h_81 := by
                            intro t148 h_81 hF
                            rw [e82] at hF
                            refine WL.val (d := (some 149)) (v := .bool t148) (h' := h_81) (by kernel_rfl) (by kernel_rfl) (by kernel_rfl) ?_
                            replace hF := lett_some hF; obtain ⟨j160, e85, hF⟩ := hF
                            have J86 : ∀ (t160 : Bool) (h_84 : AHeap), j160 t160 h_84 = some (rR, hR) → WL Try.prog w0 m0 (Func.ntmps Try.f5) (Code.ops (Code.p1 (Code.p2 (Code.p2 (Code.p2 (Code.p2 (Code.p2 (Code.p2 (Code.p2 (Code.p2 (Code.p2 (Code.p2 (Code.p2 (Code.p2 (codeOf Try.f5))))))))))))))) 32 K76 [(160, .bool t160)] [] h_84 := by
                              intro t160 h_84 hF
                              rw [e85] at hF
                              refine WL.val (d := (some 8)) (v := .bool t160) (h' := h_84) (by kernel_rfl) (by kernel_rfl) (by kernel_rfl) ?_
                              refine WL.nil (by kernel_rfl) ?_
                              refine Go.weaken (l' := [(8, .bool t160)]) (Fr.sub_cons (by kernel_rfl) (Fr.sub_nil _)) ?_
                              refine n76 ?_
                              refine W.ret (by kernel_rfl) ?_
                              obtain ⟨hF, hF2⟩ := ret_inj hF; subst hF; subst hF2
                              exact leave_of (rs := [.tmp 8]) (vs := [.bool t160]) (by kernel_rfl) (res_tmp (by kernel_rfl) res_nil) (by kernel_rfl)
                            cases t148 with
                            | true =>
                              replace hF := ifB_t hF
                              refine WL.val (d := (some 150)) (v := t10) (h' := h_81) (by kernel_rfl) (by kernel_rfl) (by kernel_rfl) ?_
                              refine WL.val (d := (some 151)) (v := .int .i64 t75) (h' := h_81) (by kernel_rfl) (by kernel_rfl) (by kernel_rfl) ?_
                              replace hF := lett_some hF; obtain ⟨t152, e87, hF⟩ := hF
                              refine WL.val (d := (some 152)) (v := .int .i64 t152) (h' := h_81) (by kernel_rfl) (by kernel_rfl) (val_of (AV.int .i64) e87 (by kernel_rfl)) ?_
                              replace hF := obind_some hF; obtain ⟨t153, e88, hF⟩ := hF
                              refine WL.val (d := (some 153)) (v := t153) (h' := h_81) (by kernel_rfl) (by kernel_rfl) (Eq.trans (by kernel_rfl) (index_row (P := Try.prog) (h := h_81) (t := 46) (e' := 9) (k := .i64) (by kernel_rfl) (by kernel_rfl) (by kernel_rfl) e88)) ?_
                              replace hF := obind_some hF; obtain ⟨v154, e89, hF⟩ := hF
                              replace hF := obind_some hF; obtain ⟨t154, c90, hF⟩ := hF
                              have c90 := avStr_some c90
                              subst c90
                              refine WL.val (d := (some 154)) (v := strA t154) (h' := h_81) (by kernel_rfl) (by kernel_rfl) (Eq.trans (by kernel_rfl) (load_cell (P := Try.prog) (h := h_81) (t := 9) (by kernel_rfl) e89)) ?_
                              refine WL.val (d := (some 155)) (v := strA t93) (h' := h_81) (by kernel_rfl) (by kernel_rfl) (by kernel_rfl) ?_
                              refine WL.val (d := (some 156)) (v := .int .i64 (lenS t93)) (h' := h_81) (by kernel_rfl) (by kernel_rfl) (by kernel_rfl) ?_
                              replace hF := obind_some hF; obtain ⟨t157, e91, hF⟩ := hF
                              refine WL.val (d := (some 157)) (v := strA t157) (h' := h_81) (by kernel_rfl) (by kernel_rfl) (Eq.trans (by kernel_rfl) (slice_str (P := Try.prog) (h := h_81) (t := 9) (A := none) (B := (some (.int .i64 (lenS t93)))) (by kernel_rfl) (.inr ⟨rfl, rfl⟩) (.inl ⟨_, rfl⟩) e91)) ?_
                              refine WL.val (d := (some 158)) (v := strA t93) (h' := h_81) (by kernel_rfl) (by kernel_rfl) (by kernel_rfl) ?_
                              replace hF := lett_some hF; obtain ⟨t159, e92, hF⟩ := hF
                              refine WL.val (d := (some 159)) (v := .bool t159) (h' := h_81) (by kernel_rfl) (by kernel_rfl) (val_of AV.bool e92 (by kernel_rfl)) ?_
                              refine WL.val (d := (some 160)) (v := .bool t159) (h' := h_81) (by kernel_rfl) (by kernel_rfl) (by kernel_rfl) ?_
                              exact WL.weaken (Fr.sub_cons (by kernel_rfl) (Fr.sub_nil _)) (J86 _ _ hF)
                            | false =>
                              replace hF := ifB_f hF
                              refine WL.not (d := (some 150)) (by kernel_rfl) (by kernel_rfl) ?_
                              refine WL.not (d := (some 151)) (by kernel_rfl) (by kernel_rfl) ?_
                              refine WL.not (d := (some 152)) (by kernel_rfl) (by kernel_rfl) ?_
                              refine WL.not (d := (some 153)) (by kernel_rfl) (by kernel_rfl) ?_
                              refine WL.not (d := (some 154)) (by kernel_rfl) (by kernel_rfl) ?_
                              refine WL.not (d := (some 155)) (by kernel_rfl) (by kernel_rfl) ?_
                              refine WL.not (d := (some 156)) (by kernel_rfl) (by kernel_rfl) ?_
                              refine WL.not (d := (some 157)) (by kernel_rfl) (by kernel_rfl) ?_
                              refine WL.not (d := (some 158)) (by kernel_rfl) (by kernel_rfl) ?_
                              refine WL.not (d := (some 159)) (by kernel_rfl) (by kernel_rfl) ?_
                              refine WL.val (d := (some 160)) (v := .bool false) (h' := h_81) (by kernel_rfl) (by kernel_rfl) (by kernel_rfl) ?_
                              exact WL.weaken (Fr.sub_cons (by kernel_rfl) (Fr.sub_nil _)) (J86 _ _ hF)
                          cases t137 with
                          | true =>
                            replace hF := ifB_t hF
                            refine WL.val (d := (some 139)) (v := strA t93) (h' := h_78) (by kernel_rfl) (by kernel_rfl) (by kernel_rfl) ?_
                            refine WL.val (d := (some 140)) (v := .int .i64 (lenS t93)) (h' := h_78) (by kernel_rfl) (by kernel_rfl) (by kernel_rfl) ?_
                            refine WL.val (d := (some 141)) (v := t10) (h' := h_78) (by kernel_rfl) (by kernel_rfl) (by kernel_rfl) ?_
                            refine WL.val (d := (some 142)) (v := .int .i64 t75) (h' := h_78) (by kernel_rfl) (by kernel_rfl) (by kernel_rfl) ?_
                            replace hF := lett_some hF; obtain ⟨t143, e93, hF⟩ := hF
                            refine WL.val (d := (some 143)) (v := .int .i64 t143) (h' := h_78) (by kernel_rfl) (by kernel_rfl) (val_of (AV.int .i64) e93 (by kernel_rfl)) ?_
                            replace hF := obind_some hF; obtain ⟨t144, e94, hF⟩ := hF
                            refine WL.val (d := (some 144)) (v := t144) (h' := h_78) (by kernel_rfl) (by kernel_rfl) (Eq.trans (by kernel_rfl) (index_row (P := Try.prog) (h := h_78) (t := 46) (e' := 9) (k := .i64) (by kernel_rfl) (by kernel_rfl) (by kernel_rfl) e94)) ?_
                            replace hF := obind_some hF; obtain ⟨v145, e95, hF⟩ := hF
                            replace hF := obind_some hF; obtain ⟨t145, c96, hF⟩ := hF
                            have c96 := avStr_some c96
                            subst c96
                            refine WL.val (d := (some 145)) (v := strA t145) (h' := h_78) (by kernel_rfl) (by kernel_rfl) (Eq.trans (by kernel_rfl) (load_cell (P := Try.prog) (h := h_78) (t := 9) (by kernel_rfl) e95)) ?_
                            refine WL.val (d := (some 146)) (v := .int .i64 (lenS t145)) (h' := h_78) (by kernel_rfl) (by kernel_rfl) (by kernel_rfl) ?_
                            replace hF := lett_some hF; obtain ⟨t147, e97, hF⟩ := hF
                            refine WL.val (d := (some 147)) (v := .bool t147) (h' := h_78) (by kernel_rfl) (by kernel_rfl) (val_of AV.bool e97 (by kernel_rfl)) ?_
                            refine WL.val (d := (some 148)) (v := .bool t147) (h' := h_78) (by kernel_rfl) (by kernel_rfl) (by kernel_rfl) ?_
                            exact WL.weaken (Fr.sub_cons (by kernel_rfl) (Fr.sub_cons (by kernel_rfl) (Fr.sub_cons (by kernel_rfl) (Fr.sub_cons (by kernel_rfl) (Fr.sub_nil _))))) (J83 _ _ hF)
                          | false =>
                            replace hF := ifB_f hF
                            refine WL.not (d := (some 139)) (by kernel_rfl) (by kernel_rfl) ?_
                            refine WL.not (d := (some 140)) (by kernel_rfl) (by kernel_rfl) ?_
                            refine WL.not (d := (some 141)) (by kernel_rfl) (by kernel_rfl) ?_
                            refine WL.not (d := (some 142)) (by kernel_rfl) (by kernel_rfl) ?_
                            refine WL.not (d := (some 143)) (by kernel_rfl) (by kernel_rfl) ?_
                            refine WL.not (d := (some 144)) (by kernel_rfl) (by kernel_rfl) ?_
                            refine WL.not (d := (some 145)) (by kernel_rfl) (by kernel_rfl) ?_
                            refine WL.not (d := (some 146)) (by kernel_rfl) (by kernel_rfl) ?_
                            refine WL.not (d := (some 147)) (by kernel_rfl) (by kernel_rfl) ?_
                            refine WL.val (d := (some 148)) (v := .bool false) (h' := h_78) (by kernel_rfl) (by kernel_rfl) (by kernel_rfl) ?_
                            exact WL.weaken (Fr.sub_cons (by kernel_rfl) (Fr.sub_cons (by kernel_rfl) (Fr.sub_cons (by kernel_rfl) (Fr.sub_cons (by kernel_rfl) (Fr.sub_nil _))))) (J83 _ _ hF)
                        cases t130 with
                        | true =>
                          replace hF := ifB_t hF
                          refine WL.val (d := (some 132)) (v := .int .i64 t75) (h' := h_67) (by kernel_rfl) (by kernel_rfl) (by kernel_rfl) ?_
                          replace hF := lett_some hF; obtain ⟨t133, e98, hF⟩ := hF
                          refine WL.val (d := (some 133)) (v := .int .i64 t133) (h' := h_67) (by kernel_rfl) (by kernel_rfl) (val_of (AV.int .i64) e98 (by kernel_rfl)) ?_
                          refine WL.val (d := (some 134)) (v := t10) (h' := h_67) (by kernel_rfl) (by kernel_rfl) (by kernel_rfl) ?_
                          replace hF := obind_some hF; obtain ⟨t135, e99, hF⟩ := hF
                          refine WL.val (d := (some 135)) (v := .int .i64 t135) (h' := h_67) (by kernel_rfl) (by kernel_rfl) (Eq.trans (by kernel_rfl) (len_row (P := Try.prog) (h := h_67) (t := 46) (e' := 9) (by kernel_rfl) e99)) ?_
                          replace hF := lett_some hF; obtain ⟨t136, e100, hF⟩ := hF
                          refine WL.val (d := (some 136)) (v := .bool t136) (h' := h_67) (by kernel_rfl) (by kernel_rfl) (val_of AV.bool e100 (by kernel_rfl)) ?_
                          refine WL.val (d := (some 137)) (v := .bool t136) (h' := h_67) (by kernel_rfl) (by kernel_rfl) (by kernel_rfl) ?_
                          exact WL.weaken (Fr.sub_cons (by kernel_rfl) (Fr.sub_cons (by kernel_rfl) (Fr.sub_cons (by kernel_rfl) (Fr.sub_cons (by kernel_rfl) (Fr.sub_nil _))))) (J80 _ _ hF)
                        | false =>
                          replace hF := ifB_f hF
                          refine WL.not (d := (some 132)) (by kernel_rfl) (by kernel_rfl) ?_
                          refine WL.not (d := (some 133)) (by kernel_rfl) (by kernel_rfl) ?_
                          refine WL.not (d := (some 134)) (by kernel_rfl) (by kernel_rfl) ?_
                          refine WL.not (d := (some 135)) (by kernel_rfl) (by kernel_rfl) ?_
                          refine WL.not (d := (some 136)) (by kernel_rfl) (by kernel_rfl) ?_
                          refine WL.val (d := (some 137)) (v := .bool false) (h' := h_67) (by kernel_rfl) (by kernel_rfl) (by kernel_rfl) ?_
                          exact WL.weaken (Fr.sub_cons (by kernel_rfl) (Fr.sub_cons (by kernel_rfl) (Fr.sub_cons (by kernel_rfl) (Fr.sub_cons (by kernel_rfl) (Fr.sub_nil _))))) (J80 _ _ hF)
                  refine W.draw (by kernel_rfl) (hc.ok w0) (plan := [0, 1, 2, 3, 4, 5, 6, 7, 8, 9, 10, 11, 12, 13, 14, 15, 16, 17, 18, 19, 20, 21, 22, 23, 24, 25]) (by kernel_rfl) (by kernel_rfl) (by kernel_rfl) ?_
                  refine WD.val (d := (some 95)) (v := .int .i64 t94) (h' := h_58) (by kernel_rfl) (by kernel_rfl) (by kernel_rfl) (k := 0) (by kernel_rfl) (fun e => absurd e (by decide)) (by decide) ?_
                  replace hF := lett_some hF; obtain ⟨t96, e101, hF⟩ := hF
                  refine WD.val (d := (some 96)) (v := .bool t96) (h' := h_58) (by kernel_rfl) (by kernel_rfl) (val_of AV.bool e101 (by kernel_rfl)) (k := 0) (by kernel_rfl) (fun e => absurd e (by decide)) (by decide) ?_
                  refine WD.val (d := (some 97)) (v := .bool t96) (h' := h_58) (by kernel_rfl) (by kernel_rfl) (by kernel_rfl) (k := 0) (by kernel_rfl) (fun e => absurd e (by decide)) (by decide) ?_
                  cases t96 with
                  | true =>
                    replace hF := ifB_t hF
                    refine WD.not (d := (some 98)) (by kernel_rfl) (by kernel_rfl) (k := 0) (by kernel_rfl) (fun e => absurd e (by decide)) (by decide) ?_
                    refine WD.not (d := (some 99)) (by kernel_rfl) (by kernel_rfl) (k := 0) (by kernel_rfl) (fun e => absurd e (by decide)) (by decide) ?_
                    refine WD.not (d := (some 100)) (by kernel_rfl) (by kernel_rfl) (k := 0) (by kernel_rfl) (fun e => absurd e (by decide)) (by decide) ?_
                    refine WD.not (d := (some 101)) (by kernel_rfl) (by kernel_rfl) (k := 0) (by kernel_rfl) (fun e => absurd e (by decide)) (by decide) ?_
                    refine WD.not (d := (some 102)) (by kernel_rfl) (by kernel_rfl) (k := 0) (by kernel_rfl) (fun e => absurd e (by decide)) (by decide) ?_
                    refine WD.not (d := (some 103)) (by kernel_rfl) (by kernel_rfl) (k := 1) (by kernel_rfl) (fun e => absurd e (by decide)) (by decide) ?_
                    refine WD.not (d := (some 104)) (by kernel_rfl) (by kernel_rfl) (k := 0) (by kernel_rfl) (fun e => absurd e (by decide)) (by decide) ?_
                    refine WD.not (d := (some 105)) (by kernel_rfl) (by kernel_rfl) (k := 0) (by kernel_rfl) (fun e => absurd e (by decide)) (by decide) ?_
                    refine WD.val (d := (some 106)) (v := .bool true) (h' := h_58) (by kernel_rfl) (by kernel_rfl) (by kernel_rfl) (k := 0) (by kernel_rfl) (fun e => absurd e (by decide)) (by decide) ?_
                    refine WD.val (d := (some 107)) (v := .bool true) (h' := h_58) (by kernel_rfl) (by kernel_rfl) (by kernel_rfl) (k := 0) (by kernel_rfl) (fun e => absurd e (by decide)) (by decide) ?_
                    refine WD.not (d := (some 108)) (by kernel_rfl) (by kernel_rfl) (k := 0) (by kernel_rfl) (fun e => absurd e (by decide)) (by decide) ?_
                    refine WD.not (d := (some 109)) (by kernel_rfl) (by kernel_rfl) (k := 0) (by kernel_rfl) (fun e => absurd e (by decide)) (by decide) ?_
                    refine WD.not (d := (some 110)) (by kernel_rfl) (by kernel_rfl) (k := 0) (by kernel_rfl) (fun e => absurd e (by decide)) (by decide) ?_
                    refine WD.not (d := (some 111)) (by kernel_rfl) (by kernel_rfl) (k := 0) (by kernel_rfl) (fun e => absurd e (by decide)) (by decide) ?_
                    refine WD.not (d := (some 112)) (by kernel_rfl) (by kernel_rfl) (k := 1) (by kernel_rfl) (fun e => absurd e (by decide)) (by decide) ?_
                    refine WD.not (d := (some 113)) (by kernel_rfl) (by kernel_rfl) (k := 0) (by kernel_rfl) (fun e => absurd e (by decide)) (by decide) ?_
                    refine WD.not (d := (some 114)) (by kernel_rfl) (by kernel_rfl) (k := 0) (by kernel_rfl) (fun e => absurd e (by decide)) (by decide) ?_
                    refine WD.not (d := (some 115)) (by kernel_rfl) (by kernel_rfl) (k := 0) (by kernel_rfl) (fun e => absurd e (by decide)) (by decide) ?_
                    refine WD.not (d := (some 116)) (by kernel_rfl) (by kernel_rfl) (k := 0) (by kernel_rfl) (fun e => absurd e (by decide)) (by decide) ?_
                    refine WD.not (d := (some 117)) (by kernel_rfl) (by kernel_rfl) (k := 0) (by kernel_rfl) (fun e => absurd e (by decide)) (by decide) ?_
                    refine WD.not (d := (some 118)) (by kernel_rfl) (by kernel_rfl) (k := 1) (by kernel_rfl) (fun e => absurd e (by decide)) (by decide) ?_
                    refine WD.not (d := (some 119)) (by kernel_rfl) (by kernel_rfl) (k := 0) (by kernel_rfl) (fun e => absurd e (by decide)) (by decide) ?_
                    refine WD.val (d := (some 120)) (v := .bool true) (h' := h_58) (by kernel_rfl) (by kernel_rfl) (by kernel_rfl) (k := 0) (by kernel_rfl) (fun e => absurd e (by decide)) (by decide) ?_
                    refine WD.nil ?_
                    exact Go.weaken (Fr.sub_cons (by kernel_rfl) (Fr.sub_cons (by kernel_rfl) (Fr.sub_cons (by kernel_rfl) (Fr.sub_cons (by kernel_rfl) (Fr.sub_cons (by kernel_rfl) (Fr.sub_nil _)))))) (J66 _ _ hF)
                  | false =>
                    replace hF := ifB_f hF
                    refine WD.val (d := (some 98)) (v := strA t93) (h' := h_58) (by kernel_rfl) (by kernel_rfl) (by kernel_rfl) (k := 0) (by kernel_rfl) (fun e => absurd e (by decide)) (by decide) ?_
                    refine WD.val (d := (some 99)) (v := .int .i64 (lenS t93)) (h' := h_58) (by kernel_rfl) (by kernel_rfl) (by kernel_rfl) (k := 0) (by kernel_rfl) (fun e => absurd e (by decide)) (by decide) ?_
                    refine WD.val (d := (some 100)) (v := t10) (h' := h_58) (by kernel_rfl) (by kernel_rfl) (by kernel_rfl) (k := 0) (by kernel_rfl) (fun e => absurd e (by decide)) (by decide) ?_
                    refine WD.val (d := (some 101)) (v := .int .i64 t75) (h' := h_58) (by kernel_rfl) (by kernel_rfl) (by kernel_rfl) (k := 0) (by kernel_rfl) (fun e => absurd e (by decide)) (by decide) ?_
                    replace hF := obind_some hF; obtain ⟨t102, e102, hF⟩ := hF
                    refine WD.val (d := (some 102)) (v := t102) (h' := h_58) (by kernel_rfl) (by kernel_rfl) (Eq.trans (by kernel_rfl) (index_row (P := Try.prog) (h := h_58) (t := 46) (e' := 9) (k := .i64) (by kernel_rfl) (by kernel_rfl) (by kernel_rfl) e102)) (k := 0) (by kernel_rfl) (fun e => absurd e (by decide)) (by decide) ?_
                    replace hF := obind_some hF; obtain ⟨v103, e103, hF⟩ := hF
                    replace hF := obind_some hF; obtain ⟨t103, c104, hF⟩ := hF
                    have c104 := avStr_some c104
                    subst c104
                    refine WD.val (d := (some 103)) (v := strA t103) (h' := h_58) (by kernel_rfl) (by kernel_rfl) (Eq.trans (by kernel_rfl) (load_cell (P := Try.prog) (h := h_58) (t := 9) (by kernel_rfl) e103)) (k := 1) (by kernel_rfl) (fun e => absurd e (by decide)) (by decide) ?_
                    refine WD.val (d := (some 104)) (v := .int .i64 (lenS t103)) (h' := h_58) (by kernel_rfl) (by kernel_rfl) (by kernel_rfl) (k := 0) (by kernel_rfl) (fun e => absurd e (by decide)) (by decide) ?_
                    replace hF := lett_some hF; obtain ⟨t105, e105, hF⟩ := hF
                    refine WD.val (d := (some 105)) (v := .bool t105) (h' := h_58) (by kernel_rfl) (by kernel_rfl) (val_of AV.bool e105 (by kernel_rfl)) (k := 0) (by kernel_rfl) (fun e => absurd e (by decide)) (by decide) ?_
                    refine WD.val (d := (some 106)) (v := .bool t105) (h' := h_58) (by kernel_rfl) (by kernel_rfl) (by kernel_rfl) (k := 0) (by kernel_rfl) (fun e => absurd e (by decide)) (by decide) ?_
                    refine WD.val (d := (some 107)) (v := .bool t105) (h' := h_58) (by kernel_rfl) (by kernel_rfl) (by kernel_rfl) (k := 0) (by kernel_rfl) (fun e => absurd e (by decide)) (by decide) ?_
                    cases t105 with
                    | true =>
                      replace hF := ifB_t hF
                      refine WD.not (d := (some 108)) (by kernel_rfl) (by kernel_rfl) (k := 0) (by kernel_rfl) (fun e => absurd e (by decide)) (by decide) ?_
                      refine WD.not (d := (some 109)) (by kernel_rfl) (by kernel_rfl) (k := 0) (by kernel_rfl) (fun e => absurd e (by decide)) (by decide) ?_
                      refine WD.not (d := (some 110)) (by kernel_rfl) (by kernel_rfl) (k := 0) (by kernel_rfl) (fun e => absurd e (by decide)) (by decide) ?_
                      refine WD.not (d := (some 111)) (by kernel_rfl) (by kernel_rfl) (k := 0) (by kernel_rfl) (fun e => absurd e (by decide)) (by decide) ?_
                      refine WD.not (d := (some 112)) (by kernel_rfl) (by kernel_rfl) (k := 1) (by kernel_rfl) (fun e => absurd e (by decide)) (by decide) ?_
                      refine WD.not (d := (some 113)) (by kernel_rfl) (by kernel_rfl) (k := 0) (by kernel_rfl) (fun e => absurd e (by decide)) (by decide) ?_
                      refine WD.not (d := (some 114)) (by kernel_rfl) (by kernel_rfl) (k := 0) (by kernel_rfl) (fun e => absurd e (by decide)) (by decide) ?_
                      refine WD.not (d := (some 115)) (by kernel_rfl) (by kernel_rfl) (k := 0) (by kernel_rfl) (fun e => absurd e (by decide)) (by decide) ?_
                      refine WD.not (d := (some 116)) (by kernel_rfl) (by kernel_rfl) (k := 0) (by kernel_rfl) (fun e => absurd e (by decide)) (by decide) ?_
                      refine WD.not (d := (some 117)) (by kernel_rfl) (by kernel_rfl) (k := 0) (by kernel_rfl) (fun e => absurd e (by decide)) (by decide) ?_
                      refine WD.not (d := (some 118)) (by kernel_rfl) (by kernel_rfl) (k := 1) (by kernel_rfl) (fun e => absurd e (by decide)) (by decide) ?_
                      refine WD.not (d := (some 119)) (by kernel_rfl) (by kernel_rfl) (k := 0) (by kernel_rfl) (fun e => absurd e (by decide)) (by decide) ?_
                      refine WD.val (d := (some 120)) (v := .bool true) (h' := h_58) (by kernel_rfl) (by kernel_rfl) (by kernel_rfl) (k := 0) (by kernel_rfl) (fun e => absurd e (by decide)) (by decide) ?_
                      refine WD.nil ?_
                      exact Go.weaken (Fr.sub_cons (by kernel_rfl) (Fr.sub_cons (by kernel_rfl) (Fr.sub_cons (by kernel_rfl) (Fr.sub_cons (by kernel_rfl) (Fr.sub_cons (by kernel_rfl) (Fr.sub_nil _)))))) (J66 _ _ hF)
                    | false =>
                      replace hF := ifB_f hF
                      refine WD.val (d := (some 108)) (v := strA t93) (h' := h_58) (by kernel_rfl) (by kernel_rfl) (by kernel_rfl) (k := 0) (by kernel_rfl) (fun e => absurd e (by decide)) (by decide) ?_
                      refine WD.val (d := (some 109)) (v := t10) (h' := h_58) (by kernel_rfl) (by kernel_rfl) (by kernel_rfl) (k := 0) (by kernel_rfl) (fun e => absurd e (by decide)) (by decide) ?_
                      refine WD.val (d := (some 110)) (v := .int .i64 t75) (h' := h_58) (by kernel_rfl) (by kernel_rfl) (by kernel_rfl) (k := 0) (by kernel_rfl) (fun e => absurd e (by decide)) (by decide) ?_
                      replace hF := obind_some hF; obtain ⟨t111, e106, hF⟩ := hF
                      refine WD.val (d := (some 111)) (v := t111) (h' := h_58) (by kernel_rfl) (by kernel_rfl) (Eq.trans (by kernel_rfl) (index_row (P := Try.prog) (h := h_58) (t := 46) (e' := 9) (k := .i64) (by kernel_rfl) (by kernel_rfl) (by kernel_rfl) e106)) (k := 0) (by kernel_rfl) (fun e => absurd e (by decide)) (by decide) ?_
                      replace hF := obind_some hF; obtain ⟨v112, e107, hF⟩ := hF
                      replace hF := obind_some hF; obtain ⟨t112, c108, hF⟩ := hF
                      have c108 := avStr_some c108
                      subst c108
                      refine WD.val (d := (some 112)) (v := strA t112) (h' := h_58) (by kernel_rfl) (by kernel_rfl) (Eq.trans (by kernel_rfl) (load_cell (P := Try.prog) (h := h_58) (t := 9) (by kernel_rfl) e107)) (k := 1) (by kernel_rfl) (fun e => absurd e (by decide)) (by decide) ?_
                      refine WD.val (d := (some 113)) (v := .int .i64 (lenS t112)) (h' := h_58) (by kernel_rfl) (by kernel_rfl) (by kernel_rfl) (k := 0) (by kernel_rfl) (fun e => absurd e (by decide)) (by decide) ?_
                      replace hF := obind_some hF; obtain ⟨t114, e109, hF⟩ := hF
                      refine WD.val (d := (some 114)) (v := strA t114) (h' := h_58) (by kernel_rfl) (by kernel_rfl) (Eq.trans (by kernel_rfl) (slice_str (P := Try.prog) (h := h_58) (t := 9) (A := none) (B := (some (.int .i64 (lenS t112)))) (by kernel_rfl) (.inr ⟨rfl, rfl⟩) (.inl ⟨_, rfl⟩) e109)) (k := 0) (by kernel_rfl) (fun e => absurd e (by decide)) (by decide) ?_
                      refine WD.val (d := (some 115)) (v := t10) (h' := h_58) (by kernel_rfl) (by kernel_rfl) (by kernel_rfl) (k := 0) (by kernel_rfl) (fun e => absurd e (by decide)) (by decide) ?_
                      refine WD.val (d := (some 116)) (v := .int .i64 t75) (h' := h_58) (by kernel_rfl) (by kernel_rfl) (by kernel_rfl) (k := 0) (by kernel_rfl) (fun e => absurd e (by decide)) (by decide) ?_
                      replace hF := obind_some hF; obtain ⟨t117, e110, hF⟩ := hF
                      refine WD.val (d := (some 117)) (v := t117) (h' := h_58) (by kernel_rfl) (by kernel_rfl) (Eq.trans (by kernel_rfl) (index_row (P := Try.prog) (h := h_58) (t := 46) (e' := 9) (k := .i64) (by kernel_rfl) (by kernel_rfl) (by kernel_rfl) e110)) (k := 0) (by kernel_rfl) (fun e => absurd e (by decide)) (by decide) ?_
                      replace hF := obind_some hF; obtain ⟨v118, e111, hF⟩ := hF
                      replace hF := obind_some hF; obtain ⟨t118, c112, hF⟩ := hF
                      have c112 := avStr_some c112
                      subst c112
                      refine WD.val (d := (some 118)) (v := strA t118) (h' := h_58) (by kernel_rfl) (by kernel_rfl) (Eq.trans (by kernel_rfl) (load_cell (P := Try.prog) (h := h_58) (t := 9) (by kernel_rfl) e111)) (k := 1) (by kernel_rfl) (fun e => absurd e (by decide)) (by decide) ?_
                      replace hF := lett_some hF; obtain ⟨t119, e113, hF⟩ := hF
                      refine WD.val (d := (some 119)) (v := .bool t119) (h' := h_58) (by kernel_rfl) (by kernel_rfl) (val_of AV.bool e113 (by kernel_rfl)) (k := 0) (by kernel_rfl) (fun e => absurd e (by decide)) (by decide) ?_
                      refine WD.val (d := (some 120)) (v := .bool t119) (h' := h_58) (by kernel_rfl) (by kernel_rfl) (by kernel_rfl) (k := 0) (by kernel_rfl) (fun e => absurd e (by decide)) (by decide) ?_
                      refine WD.nil ?_
                      exact Go.weaken (Fr.sub_cons (by kernel_rfl) (Fr.sub_cons (by kernel_rfl) (Fr.sub_cons (by kernel_rfl) (Fr.sub_cons (by kernel_rfl) (Fr.sub_cons (by kernel_rfl) (Fr.sub_nil _)))))) (J66 _ _ hF)
              cases t81 with
              | true =>
                replace hF := ifB_t hF
                refine WL.not (d := (some 83)) (by kernel_rfl) (by kernel_rfl) ?_
                refine WL.not (d := (some 84)) (by kernel_rfl) (by kernel_rfl) ?_
                refine WL.not (d := (some 85)) (by kernel_rfl) (by kernel_rfl) ?_
                refine WL.not (d := (some 86)) (by kernel_rfl) (by kernel_rfl) ?_
                refine WL.not (d := (some 87)) (by kernel_rfl) (by kernel_rfl) ?_
                refine WL.not (d := (some 88)) (by kernel_rfl) (by kernel_rfl) ?_
                refine WL.val (d := (some 89)) (v := .bool true) (h' := h_47) (by kernel_rfl) (by kernel_rfl) (by kernel_rfl) ?_
                exact WL.weaken (Fr.sub_cons (by kernel_rfl) (Fr.sub_cons (by kernel_rfl) (Fr.sub_cons (by kernel_rfl) (Fr.sub_cons (by kernel_rfl) (Fr.sub_cons (by kernel_rfl) (Fr.sub_nil _)))))) (J55 _ _ hF)
              | false =>
                replace hF := ifB_f hF
                refine WL.val (d := (some 83)) (v := r28) (h' := h_47) (by kernel_rfl) (by kernel_rfl) (by kernel_rfl) ?_
                refine WL.val (d := (some 84)) (v := .int .i64 t2) (h' := h_47) (by kernel_rfl) (by kernel_rfl) (by kernel_rfl) ?_
                replace hF := outK_some hF; obtain ⟨v85, h_114, e115, hF⟩ := hF
                refine WL.val (d := (some 85)) (v := v85) (h' := h_114) (by kernel_rfl) (by kernel_rfl) (Eq.trans (by kernel_rfl) e115) ?_
                refine WL.val (d := (some 86)) (v := .int .i64 t3) (h' := h_114) (by kernel_rfl) (by kernel_rfl) (by kernel_rfl) ?_
                replace hF := callN_some hF; obtain ⟨r87, h_116, e117, hF⟩ := hF
                replace hF := obind_some hF; obtain ⟨t87, c118, hF⟩ := hF
                have c118 := avInt_some c118
                subst c118
                refine WL.call (hc.ok w0) (d := (some 87)) (by kernel_rfl) (by kernel_rfl) (by kernel_rfl) e117 ?_
                replace hF := lett_some hF; obtain ⟨t88, e119, hF⟩ := hF
                refine WL.val (d := (some 88)) (v := .bool t88) (h' := h_116) (by kernel_rfl) (by kernel_rfl) (val_of AV.bool e119 (by kernel_rfl)) ?_
                refine WL.val (d := (some 89)) (v := .bool t88) (h' := h_116) (by kernel_rfl) (by kernel_rfl) (by kernel_rfl) ?_
                exact WL.weaken (Fr.sub_cons (by kernel_rfl) (Fr.sub_cons (by kernel_rfl) (Fr.sub_cons (by kernel_rfl) (Fr.sub_cons (by kernel_rfl) (Fr.sub_cons (by kernel_rfl) (Fr.sub_nil _)))))) (J55 _ _ hF)
            refine W.blockK (by kernel_rfl) (fun K37 n37 s37 o37 q37 p37 => ?_)
            refine W.loopK (by kernel_rfl) (fun I120 K120 b120 n120 e120 q120 p120 => ?_)
            have L120 : ∀ (m : Nat) (t10_121 : AV) (t42 : Int) (h_122 : AHeap), law04_DiskSure_L0 call t1 r28 t41 k38 m t10_121 t42 h_122 = some (rR, hR) → Go w0 m0 (Func.ntmps Try.f5) I120 [(2, .int .i64 t2), (3, .int .i64 t3), (9, r28), (10, t10_121), (40, t1), (41, .int .i64 t41), (42, .int .i64 t42)] [] h_122 := by
              intro m
              induction m with
              | zero => intro t10_121 t42 h_122 hF; cases hF
              | succ m ih120 =>
                intro t10_121 t42 h_122 hF
                rw [law04_DiskSure_L0_s] at hF; unfold law04_DiskSure_L0b at hF
                refine b120 ?_
                refine W.seqK (by kernel_rfl) (fun K123 n123 e123 q123 p123 => ?_)
                refine W.region (by kernel_rfl) ?_
                replace hF := lett_some hF; obtain ⟨t43, e124, hF⟩ := hF
                refine WL.val (d := (some 43)) (v := .bool t43) (h' := h_122) (by kernel_rfl) (by kernel_rfl) (val_of AV.bool e124 (by kernel_rfl)) ?_
                refine WL.nil (by kernel_rfl) ?_
                refine Go.weaken (l' := [(2, .int .i64 t2), (3, .int .i64 t3), (9, r28), (10, t10_121), (40, t1), (41, .int .i64 t41), (42, .int .i64 t42), (43, .bool t43)]) (Fr.sub_cons (by kernel_rfl) (Fr.sub_cons (by kernel_rfl) (Fr.sub_cons (by kernel_rfl) (Fr.sub_cons (by kernel_rfl) (Fr.sub_cons (by kernel_rfl) (Fr.sub_cons (by kernel_rfl) (Fr.sub_cons (by kernel_rfl) (Fr.sub_cons (by kernel_rfl) (Fr.sub_nil _))))))))) ?_
                refine n123 ?_
                refine W.seqK (by kernel_rfl) (fun K125 n125 e125 q125 p125 => ?_)
                cases t43 with
                | true =>
                  replace hF := ifB_t hF
                  refine W.cond_true (by kernel_rfl) (by kernel_rfl) ?_
                  refine W.skip (by kernel_rfl) ?_
                  refine n125 ?_
                  refine W.seqK (by kernel_rfl) (fun K126 n126 e126 q126 p126 => ?_)
                  replace hF := lett_some hF; obtain ⟨k128, e128, hF⟩ := hF
                  have J128 : ∀ (t10_129 : AV) (h_130 : AHeap), k128 t10_129 h_130 = some (rR, hR) → Go w0 m0 (Func.ntmps Try.f5) (K126 .normal) [(2, .int .i64 t2), (3, .int .i64 t3), (9, r28), (10, t10_129), (40, t1), (41, .int .i64 t41), (42, .int .i64 t42)] [] h_130 := by
                    intro t10_129 h_130 hF
                    rw [e128] at hF
                    refine n126 ?_
                    refine W.region (by kernel_rfl) ?_
                    replace hF := lett_some hF; obtain ⟨t69, e131, hF⟩ := hF
                    refine WL.val (d := (some 69)) (v := .int .i64 t69) (h' := h_130) (by kernel_rfl) (by kernel_rfl) (val_of (AV.int .i64) e131 (by kernel_rfl)) ?_
                    refine WL.val (d := (some 42)) (v := .int .i64 t69) (h' := h_130) (by kernel_rfl) (by kernel_rfl) (by kernel_rfl) ?_
                    refine WL.nil (by kernel_rfl) ?_
                    refine Go.weaken (l' := [(2, .int .i64 t2), (3, .int .i64 t3), (9, r28), (10, t10_129), (40, t1), (41, .int .i64 t41), (42, .int .i64 t69)]) (Fr.sub_cons (by kernel_rfl) (Fr.sub_cons (by kernel_rfl) (Fr.sub_cons (by kernel_rfl) (Fr.sub_cons (by kernel_rfl) (Fr.sub_cons (by kernel_rfl) (Fr.sub_cons (by kernel_rfl) (Fr.sub_cons (by kernel_rfl) (Fr.sub_nil _)))))))) ?_
                    refine n120 ?_
                    exact Go.weaken (Fr.sub_cons (by kernel_rfl) (Fr.sub_cons (by kernel_rfl) (Fr.sub_cons (by kernel_rfl) (Fr.sub_cons (by kernel_rfl) (Fr.sub_cons (by kernel_rfl) (Fr.sub_cons (by kernel_rfl) (Fr.sub_cons (by kernel_rfl) (Fr.sub_nil _)))))))) (ih120 _ _ _ hF)
                  refine W.blockK (by kernel_rfl) (fun K127 n127 s127 o127 q127 p127 => ?_)
                  refine W.seqK (by kernel_rfl) (fun K132 n132 e132 q132 p132 => ?_)
                  refine W.region (by kernel_rfl) ?_
                  replace hF := obind_some hF; obtain ⟨t44, e133, hF⟩ := hF
                  refine WL.val (d := (some 44)) (v := t44) (h' := h_122) (by kernel_rfl) (by kernel_rfl) (Eq.trans (by kernel_rfl) (index_row (P := Try.prog) (h := h_122) (t := 38) (e' := 43) (k := .i64) (by kernel_rfl) (by kernel_rfl) (by kernel_rfl) e133)) ?_
                  replace hF := obind_some hF; obtain ⟨t45, e134, hF⟩ := hF
                  refine WL.val (d := (some 45)) (v := .agg t45) (h' := h_122) (by kernel_rfl) (by kernel_rfl) (Eq.trans (by kernel_rfl) (load_row (P := Try.prog) (h := h_122) (t := 43) (by kernel_rfl) (by kernel_rfl) e134)) ?_
                  replace hF := lett_some hF; obtain ⟨h_135, e136, hF⟩ := hF
                  refine WL.val (d := (some 12)) (v := (newP h_122)) (h' := h_135) (by kernel_rfl) (by kernel_rfl) (val_ofH e136 (by kernel_rfl)) ?_
                  replace hF := obind_some hF; obtain ⟨h_137, e138, hF⟩ := hF
                  refine WL.eff (h' := h_137) (by kernel_rfl) (by kernel_rfl) (Eq.trans (by kernel_rfl) (store_row (P := Try.prog) (h := h_135) (t := 43) (v := (.agg t45)) (by kernel_rfl) (by kernel_rfl) e138)) ?_
                  refine WL.nil (by kernel_rfl) ?_
                  refine Go.weaken (l' := [(2, .int .i64 t2), (3, .int .i64 t3), (9, r28), (10, t10_121), (12, (newP h_122)), (40, t1), (41, .int .i64 t41), (42, .int .i64 t42)]) (Fr.sub_cons (by kernel_rfl) (Fr.sub_cons (by kernel_rfl) (Fr.sub_cons (by kernel_rfl) (Fr.sub_cons (by kernel_rfl) (Fr.sub_cons (by kernel_rfl) (Fr.sub_cons (by kernel_rfl) (Fr.sub_cons (by kernel_rfl) (Fr.sub_cons (by kernel_rfl) (Fr.sub_nil _))))))))) ?_
                  refine n132 ?_
                  refine W.seqK (by kernel_rfl) (fun K139 n139 e139 q139 p139 => ?_)
                  refine W.region (by kernel_rfl) ?_
                  refine WL.val (d := (some 13)) (v := .int .i64 0) (h' := h_137) (by kernel_rfl) (by kernel_rfl) (by kernel_rfl) ?_
                  refine WL.nil (by kernel_rfl) ?_
                  refine Go.weaken (l' := [(2, .int .i64 t2), (3, .int .i64 t3), (9, r28), (10, t10_121), (12, (newP h_122)), (40, t1), (41, .int .i64 t41), (42, .int .i64 t42)]) (Fr.sub_cons (by kernel_rfl) (Fr.sub_cons (by kernel_rfl) (Fr.sub_cons (by kernel_rfl) (Fr.sub_cons (by kernel_rfl) (Fr.sub_cons (by kernel_rfl) (Fr.sub_cons (by kernel_rfl) (Fr.sub_cons (by kernel_rfl) (Fr.sub_cons (by kernel_rfl) (Fr.sub_nil _))))))))) ?_
                  refine n139 ?_
                  refine W.seqK (by kernel_rfl) (fun K140 n140 e140 q140 p140 => ?_)
                  refine W.seqK (by kernel_rfl) (fun K141 n141 e141 q141 p141 => ?_)
                  refine W.region (by kernel_rfl) ?_
                  refine WL.val (d := (some 46)) (v := (AV.ptr (AHeap.next h_122) 0)) (h' := h_137) (by kernel_rfl) (by kernel_rfl) (by kernel_rfl) ?_
                  replace hF := obind_some hF; obtain ⟨v47, e142, hF⟩ := hF
                  replace hF := obind_some hF; obtain ⟨t47, c143, hF⟩ := hF
                  have c143 := avInt_some c143
                  subst c143
                  refine WL.val (d := (some 47)) (v := .int .i64 t47) (h' := h_137) (by kernel_rfl) (by kernel_rfl) (Eq.trans (by kernel_rfl) (load_cell (P := Try.prog) (h := h_137) (t := 3) (by kernel_rfl) e142)) ?_
                  replace hF := obind_some hF; obtain ⟨t48, e144, hF⟩ := hF
                  refine WL.val (d := (some 48)) (v := .int .i64 t48) (h' := h_137) (by kernel_rfl) (by kernel_rfl) (Eq.trans (by kernel_rfl) (rem_int (P := Try.prog) (h := h_137) (t := 3) (lit := true) e144)) ?_
                  replace hF := lett_some hF; obtain ⟨t49, e145, hF⟩ := hF
                  refine WL.val (d := (some 49)) (v := .bool t49) (h' := h_137) (by kernel_rfl) (by kernel_rfl) (val_of AV.bool e145 (by kernel_rfl)) ?_
                  refine WL.nil (by kernel_rfl) ?_
                  refine Go.weaken (l' := [(2, .int .i64 t2), (3, .int .i64 t3), (9, r28), (10, t10_121), (12, (newP h_122)), (40, t1), (41, .int .i64 t41), (42, .int .i64 t42), (49, .bool t49)]) (Fr.sub_cons (by kernel_rfl) (Fr.sub_cons (by kernel_rfl) (Fr.sub_cons (by kernel_rfl) (Fr.sub_cons (by kernel_rfl) (Fr.sub_cons (by kernel_rfl) (Fr.sub_cons (by kernel_rfl) (Fr.sub_cons (by kernel_rfl) (Fr.sub_cons (by kernel_rfl) (Fr.sub_cons (by kernel_rfl) (Fr.sub_nil _)))))))))) ?_
                  refine n141 ?_
                  replace hF := lett_some hF; obtain ⟨k146, e146, hF⟩ := hF
                  have J146 : ∀ (t13 : Int) (h_147 : AHeap), k146 t13 h_147 = some (rR, hR) → Go w0 m0 (Func.ntmps Try.f5) (K140 .normal) [(2, .int .i64 t2), (3, .int .i64 t3), (9, r28), (10, t10_121), (13, .int .i64 t13), (40, t1), (41, .int .i64 t41), (42, .int .i64 t42)] [] h_147 := by
                    intro t13 h_147 hF
                    rw [e146] at hF
                    refine n140 ?_
                    refine W.seqK (by kernel_rfl) (fun K148 n148 e148 q148 p148 => ?_)
                    refine W.seqK (by kernel_rfl) (fun K149 n149 e149 q149 p149 => ?_)
                    refine W.region (by kernel_rfl) ?_
                    refine WL.val (d := (some 58)) (v := .int .i64 t13) (h' := h_147) (by kernel_rfl) (by kernel_rfl) (by kernel_rfl) ?_
                    replace hF := lett_some hF; obtain ⟨t59, e150, hF⟩ := hF
                    refine WL.val (d := (some 59)) (v := .bool t59) (h' := h_147) (by kernel_rfl) (by kernel_rfl) (val_of AV.bool e150 (by kernel_rfl)) ?_
                    refine WL.nil (by kernel_rfl) ?_
                    refine Go.weaken (l' := [(2, .int .i64 t2), (3, .int .i64 t3), (9, r28), (10, t10_121), (40, t1), (41, .int .i64 t41), (42, .int .i64 t42), (59, .bool t59)]) (Fr.sub_cons (by kernel_rfl) (Fr.sub_cons (by kernel_rfl) (Fr.sub_cons (by kernel_rfl) (Fr.sub_cons (by kernel_rfl) (Fr.sub_cons (by kernel_rfl) (Fr.sub_cons (by kernel_rfl) (Fr.sub_cons (by kernel_rfl) (Fr.sub_cons (by kernel_rfl) (Fr.sub_nil _))))))))) ?_
                    refine n149 ?_
                    cases t59 with
                    | true =>
                      replace hF := ifB_t hF
                      refine W.cond_true (by kernel_rfl) (by kernel_rfl) ?_
                      refine W.exit (by kernel_rfl) ?_
                      refine e148 ?_
                      refine s127 (by kernel_rfl) ?_
                      exact Go.weaken (Fr.sub_cons (by kernel_rfl) (Fr.sub_cons (by kernel_rfl) (Fr.sub_cons (by kernel_rfl) (Fr.sub_cons (by kernel_rfl) (Fr.sub_cons (by kernel_rfl) (Fr.sub_cons (by kernel_rfl) (Fr.sub_cons (by kernel_rfl) (Fr.sub_nil _)))))))) (J128 _ _ hF)
                    | false =>
                      replace hF := ifB_f hF
                      refine W.cond_false (by kernel_rfl) (by kernel_rfl) ?_
                      refine W.skip (by kernel_rfl) ?_
                      refine n148 ?_
                      refine W.seqK (by kernel_rfl) (fun K151 n151 e151 q151 p151 => ?_)
                      refine W.region (by kernel_rfl) ?_
                      refine WL.val (d := (some 61)) (v := r28) (h' := h_147) (by kernel_rfl) (by kernel_rfl) (by kernel_rfl) ?_
                      replace hF := callN_some hF; obtain ⟨r62, h_152, e153, hF⟩ := hF
                      refine WL.call (hc.ok w0) (d := (some 62)) (by kernel_rfl) (by kernel_rfl) (by kernel_rfl) e153 ?_
                      refine WL.val (d := (some 60)) (v := r62) (h' := h_152) (by kernel_rfl) (by kernel_rfl) (by kernel_rfl) ?_
                      replace hF := obind_some hF; obtain ⟨v63, e154, hF⟩ := hF
                      replace hF := obind_some hF; obtain ⟨t63, c155, hF⟩ := hF
                      have c155 := avStr_some c155
                      subst c155
                      refine WL.val (d := (some 63)) (v := strA t63) (h' := h_152) (by kernel_rfl) (by kernel_rfl) (Eq.trans (by kernel_rfl) (extract_tup (h := h_152) e154)) ?_
                      replace hF := obind_some hF; obtain ⟨v64, e156, hF⟩ := hF
                      replace hF := obind_some hF; obtain ⟨t64, c157, hF⟩ := hF
                      have c157 := avInt_some c157
                      subst c157
                      refine WL.val (d := (some 64)) (v := .int .i64 t64) (h' := h_152) (by kernel_rfl) (by kernel_rfl) (Eq.trans (by kernel_rfl) (extract_tup (h := h_152) e156)) ?_
                      refine WL.val (d := (some 14)) (v := strA t63) (h' := h_152) (by kernel_rfl) (by kernel_rfl) (by kernel_rfl) ?_
                      refine WL.val (d := (some 15)) (v := .int .i64 t64) (h' := h_152) (by kernel_rfl) (by kernel_rfl) (by kernel_rfl) ?_
                      refine WL.nil (by kernel_rfl) ?_
                      refine Go.weaken (l' := [(2, .int .i64 t2), (3, .int .i64 t3), (9, r28), (10, t10_121), (14, strA t63), (40, t1), (41, .int .i64 t41), (42, .int .i64 t42)]) (Fr.sub_cons (by kernel_rfl) (Fr.sub_cons (by kernel_rfl) (Fr.sub_cons (by kernel_rfl) (Fr.sub_cons (by kernel_rfl) (Fr.sub_cons (by kernel_rfl) (Fr.sub_cons (by kernel_rfl) (Fr.sub_cons (by kernel_rfl) (Fr.sub_cons (by kernel_rfl) (Fr.sub_nil _))))))))) ?_
                      refine n151 ?_
                      refine W.region (by kernel_rfl) ?_
                      refine WL.val (d := (some 65)) (v := t10_121) (h' := h_152) (by kernel_rfl) (by kernel_rfl) (by kernel_rfl) ?_
                      refine WL.val (d := (some 66)) (v := strA t63) (h' := h_152) (by kernel_rfl) (by kernel_rfl) (by kernel_rfl) ?_
                      replace hF := outK_some hF; obtain ⟨v67, h_158, e159, hF⟩ := hF
                      refine WL.val (d := (some 67)) (v := v67) (h' := h_158) (by kernel_rfl) (by kernel_rfl) (Eq.trans (by kernel_rfl) e159) ?_
                      replace hF := outK_some hF; obtain ⟨v68, h_160, e161, hF⟩ := hF
                      refine WL.val (d := (some 68)) (v := v68) (h' := h_160) (by kernel_rfl) (by kernel_rfl) (Eq.trans (by kernel_rfl) e161) ?_
                      refine WL.val (d := (some 10)) (v := v68) (h' := h_160) (by kernel_rfl) (by kernel_rfl) (by kernel_rfl) ?_
                      refine WL.nil (by kernel_rfl) ?_
                      refine Go.weaken (l' := [(2, .int .i64 t2), (3, .int .i64 t3), (9, r28), (10, v68), (40, t1), (41, .int .i64 t41), (42, .int .i64 t42)]) (Fr.sub_cons (by kernel_rfl) (Fr.sub_cons (by kernel_rfl) (Fr.sub_cons (by kernel_rfl) (Fr.sub_cons (by kernel_rfl) (Fr.sub_cons (by kernel_rfl) (Fr.sub_cons (by kernel_rfl) (Fr.sub_cons (by kernel_rfl) (Fr.sub_nil _)))))))) ?_
                      refine n127 ?_
                      exact Go.weaken (Fr.sub_cons (by kernel_rfl) (Fr.sub_cons (by kernel_rfl) (Fr.sub_cons (by kernel_rfl) (Fr.sub_cons (by kernel_rfl) (Fr.sub_cons (by kernel_rfl) (Fr.sub_cons (by kernel_rfl) (Fr.sub_cons (by kernel_rfl) (Fr.sub_nil _)))))))) (J128 _ _ hF)
                  cases t49 with
                  | true =>
                    replace hF := ifB_t hF
                    refine W.cond_true (by kernel_rfl) (by kernel_rfl) ?_
                    refine W.region (by kernel_rfl) ?_
                    refine WL.val (d := (some 50)) (v := r28) (h' := h_137) (by kernel_rfl) (by kernel_rfl) (by kernel_rfl) ?_
                    refine WL.val (d := (some 51)) (v := (AV.ptr (AHeap.next h_122) 3)) (h' := h_137) (by kernel_rfl) (by kernel_rfl) (by kernel_rfl) ?_
                    replace hF := obind_some hF; obtain ⟨v52, e162, hF⟩ := hF
                    replace hF := obind_some hF; obtain ⟨t52, c163, hF⟩ := hF
                    have c163 := avStr_some c163
                    subst c163
                    refine WL.val (d := (some 52)) (v := strA t52) (h' := h_137) (by kernel_rfl) (by kernel_rfl) (Eq.trans (by kernel_rfl) (load_cell (P := Try.prog) (h := h_137) (t := 9) (by kernel_rfl) e162)) ?_
                    replace hF := callN_some hF; obtain ⟨r53, h_164, e165, hF⟩ := hF
                    replace hF := obind_some hF; obtain ⟨t53, c166, hF⟩ := hF
                    have c166 := avInt_some c166
                    subst c166
                    refine WL.call (hc.ok w0) (d := (some 53)) (by kernel_rfl) (by kernel_rfl) (by kernel_rfl) e165 ?_
                    refine WL.val (d := (some 13)) (v := .int .i64 t53) (h' := h_164) (by kernel_rfl) (by kernel_rfl) (by kernel_rfl) ?_
                    refine WL.nil (by kernel_rfl) ?_
                    refine Go.weaken (l' := [(2, .int .i64 t2), (3, .int .i64 t3), (9, r28), (10, t10_121), (13, .int .i64 t53), (40, t1), (41, .int .i64 t41), (42, .int .i64 t42)]) (Fr.sub_cons (by kernel_rfl) (Fr.sub_cons (by kernel_rfl) (Fr.sub_cons (by kernel_rfl) (Fr.sub_cons (by kernel_rfl) (Fr.sub_cons (by kernel_rfl) (Fr.sub_cons (by kernel_rfl) (Fr.sub_cons (by kernel_rfl) (Fr.sub_cons (by kernel_rfl) (Fr.sub_nil _))))))))) ?_
                    exact Go.weaken (Fr.sub_cons (by kernel_rfl) (Fr.sub_cons (by kernel_rfl) (Fr.sub_cons (by kernel_rfl) (Fr.sub_cons (by kernel_rfl) (Fr.sub_cons (by kernel_rfl) (Fr.sub_cons (by kernel_rfl) (Fr.sub_cons (by kernel_rfl) (Fr.sub_cons (by kernel_rfl) (Fr.sub_nil _))))))))) (J146 _ _ hF)
                  | false =>
                    replace hF := ifB_f hF
                    refine W.cond_false (by kernel_rfl) (by kernel_rfl) ?_
                    refine W.region (by kernel_rfl) ?_
                    refine WL.val (d := (some 54)) (v := r28) (h' := h_137) (by kernel_rfl) (by kernel_rfl) (by kernel_rfl) ?_
                    refine WL.val (d := (some 55)) (v := (AV.ptr (AHeap.next h_122) 2)) (h' := h_137) (by kernel_rfl) (by kernel_rfl) (by kernel_rfl) ?_
                    replace hF := obind_some hF; obtain ⟨v56, e167, hF⟩ := hF
                    replace hF := obind_some hF; obtain ⟨t56, c168, hF⟩ := hF
                    have c168 := avInt_some c168
                    subst c168
                    refine WL.val (d := (some 56)) (v := .int .i64 t56) (h' := h_137) (by kernel_rfl) (by kernel_rfl) (Eq.trans (by kernel_rfl) (load_cell (P := Try.prog) (h := h_137) (t := 3) (by kernel_rfl) e167)) ?_
                    replace hF := callN_some hF; obtain ⟨r57, h_169, e170, hF⟩ := hF
                    replace hF := obind_some hF; obtain ⟨t57, c171, hF⟩ := hF
                    have c171 := avInt_some c171
                    subst c171
                    refine WL.call (hc.ok w0) (d := (some 57)) (by kernel_rfl) (by kernel_rfl) (by kernel_rfl) e170 ?_
                    refine WL.val (d := (some 13)) (v := .int .i64 t57) (h' := h_169) (by kernel_rfl) (by kernel_rfl) (by kernel_rfl) ?_
                    refine WL.nil (by kernel_rfl) ?_
                    refine Go.weaken (l' := [(2, .int .i64 t2), (3, .int .i64 t3), (9, r28), (10, t10_121), (13, .int .i64 t57), (40, t1), (41, .int .i64 t41), (42, .int .i64 t42)]) (Fr.sub_cons (by kernel_rfl) (Fr.sub_cons (by kernel_rfl) (Fr.sub_cons (by kernel_rfl) (Fr.sub_cons (by kernel_rfl) (Fr.sub_cons (by kernel_rfl) (Fr.sub_cons (by kernel_rfl) (Fr.sub_cons (by kernel_rfl) (Fr.sub_cons (by kernel_rfl) (Fr.sub_nil _))))))))) ?_
                    exact Go.weaken (Fr.sub_cons (by kernel_rfl) (Fr.sub_cons (by kernel_rfl) (Fr.sub_cons (by kernel_rfl) (Fr.sub_cons (by kernel_rfl) (Fr.sub_cons (by kernel_rfl) (Fr.sub_cons (by kernel_rfl) (Fr.sub_cons (by kernel_rfl) (Fr.sub_cons (by kernel_rfl) (Fr.sub_nil _))))))))) (J146 _ _ hF)
                | false =>
                  replace hF := ifB_f hF
                  refine W.cond_false (by kernel_rfl) (by kernel_rfl) ?_
                  refine W.exit (by kernel_rfl) ?_
                  refine e125 ?_
                  refine e120 ?_
                  refine s37 (by kernel_rfl) ?_
                  exact Go.weaken (Fr.sub_cons (by kernel_rfl) (Fr.sub_cons (by kernel_rfl) (Fr.sub_cons (by kernel_rfl) (Fr.sub_cons (by kernel_rfl) (Fr.sub_nil _))))) (J38 _ _ hF)
            exact Go.weaken (Fr.sub_cons (by kernel_rfl) (Fr.sub_cons (by kernel_rfl) (Fr.sub_cons (by kernel_rfl) (Fr.sub_cons (by kernel_rfl) (Fr.sub_cons (by kernel_rfl) (Fr.sub_cons (by kernel_rfl) (Fr.sub_cons (by kernel_rfl) (Fr.sub_nil _)))))))) (L120 _ _ _ _ hF)
        cases t32 with
        | true =>
          replace hF := ifB_t hF
          refine WL.not (d := (some 34)) (by kernel_rfl) (by kernel_rfl) ?_
          refine WL.not (d := (some 35)) (by kernel_rfl) (by kernel_rfl) ?_
          refine WL.not (d := (some 36)) (by kernel_rfl) (by kernel_rfl) ?_
          refine WL.val (d := (some 37)) (v := .bool true) (h' := h_23) (by kernel_rfl) (by kernel_rfl) (by kernel_rfl) ?_
          exact WL.weaken (Fr.sub_cons (by kernel_rfl) (Fr.sub_cons (by kernel_rfl) (Fr.sub_cons (by kernel_rfl) (Fr.sub_cons (by kernel_rfl) (Fr.sub_cons (by kernel_rfl) (Fr.sub_cons (by kernel_rfl) (Fr.sub_nil _))))))) (J29 _ _ hF)
        | false =>
          replace hF := ifB_f hF
          refine WL.val (d := (some 34)) (v := r28) (h' := h_23) (by kernel_rfl) (by kernel_rfl) (by kernel_rfl) ?_
          replace hF := callN_some hF; obtain ⟨r35, h_172, e173, hF⟩ := hF
          replace hF := obind_some hF; obtain ⟨t35, c174, hF⟩ := hF
          have c174 := avInt_some c174
          subst c174
          refine WL.call (hc.ok w0) (d := (some 35)) (by kernel_rfl) (by kernel_rfl) (by kernel_rfl) e173 ?_
          replace hF := lett_some hF; obtain ⟨t36, e175, hF⟩ := hF
          refine WL.val (d := (some 36)) (v := .bool t36) (h' := h_172) (by kernel_rfl) (by kernel_rfl) (val_of AV.bool e175 (by kernel_rfl)) ?_
          refine WL.val (d := (some 37)) (v := .bool t36) (h' := h_172) (by kernel_rfl) (by kernel_rfl) (by kernel_rfl) ?_
          exact WL.weaken (Fr.sub_cons (by kernel_rfl) (Fr.sub_cons (by kernel_rfl) (Fr.sub_cons (by kernel_rfl) (Fr.sub_cons (by kernel_rfl) (Fr.sub_cons (by kernel_rfl) (Fr.sub_cons (by kernel_rfl) (Fr.sub_nil _))))))) (J29 _ _ hF)
    cases t22 with
    | true =>
      replace hF := ifB_t hF
      refine WL.not (d := (some 24)) (by kernel_rfl) (by kernel_rfl) ?_
      refine WL.not (d := (some 25)) (by kernel_rfl) (by kernel_rfl) ?_
      refine WL.not (d := (some 26)) (by kernel_rfl) (by kernel_rfl) ?_
      refine WL.val (d := (some 27)) (v := .bool true) (h' := h_11) (by kernel_rfl) (by kernel_rfl) (by kernel_rfl) ?_
      exact WL.weaken (Fr.sub_cons (by kernel_rfl) (Fr.sub_cons (by kernel_rfl) (Fr.sub_cons (by kernel_rfl) (Fr.sub_cons (by kernel_rfl) (Fr.sub_cons (by kernel_rfl) (Fr.sub_nil _)))))) (J16 _ _ hF)
    | false =>
      replace hF := ifB_f hF
      refine WL.val (d := (some 24)) (v := strA t0) (h' := h_11) (by kernel_rfl) (by kernel_rfl) (by kernel_rfl) ?_
      refine WL.val (d := (some 25)) (v := .int .i64 (lenS t0)) (h' := h_11) (by kernel_rfl) (by kernel_rfl) (by kernel_rfl) ?_
      replace hF := lett_some hF; obtain ⟨t26, e176, hF⟩ := hF
      refine WL.val (d := (some 26)) (v := .bool t26) (h' := h_11) (by kernel_rfl) (by kernel_rfl) (val_of AV.bool e176 (by kernel_rfl)) ?_
      refine WL.val (d := (some 27)) (v := .bool t26) (h' := h_11) (by kernel_rfl) (by kernel_rfl) (by kernel_rfl) ?_
      exact WL.weaken (Fr.sub_cons (by kernel_rfl) (Fr.sub_cons (by kernel_rfl) (Fr.sub_cons (by kernel_rfl) (Fr.sub_cons (by kernel_rfl) (Fr.sub_cons (by kernel_rfl) (Fr.sub_nil _)))))) (J16 _ _ hF)
noncomputable def law04_DiskSure_fn (call : CallF) (n : Nat) : FnT := fun args h => match args with
  | [x0, x1, x2, x3] => obind (avStr x0) fun t0 => obind (avInt .i64 x2) fun t2 => obind (avInt .i64 x3) fun t3 => law04_DiskSure call n t0 x1 t2 t3 h
  | _ => none
set_option maxRecDepth 100000 in
theorem law04_DiskSure_fn_eq (call : CallF) (n : Nat) (t0 : Bytes) (t1 : AV) (t2 : Int) (t3 : Int) (h : AHeap) : law04_DiskSure_fn call n [strA t0, t1, .int .i64 t2, .int .i64 t3] h = law04_DiskSure call n t0 t1 t2 t3 h :=
  (Eq.trans (obind_eq (fun t0 => obind (avInt .i64 (.int .i64 t2)) fun t2 => obind (avInt .i64 (.int .i64 t3)) fun t3 => law04_DiskSure call n t0 t1 t2 t3 h) (avStr_str t0)) (Eq.trans (obind_eq (fun t2 => obind (avInt .i64 (.int .i64 t3)) fun t3 => law04_DiskSure call n t0 t1 t2 t3 h) (avInt_int .i64 t2)) (Eq.trans (obind_eq (fun t3 => law04_DiskSure call n t0 t1 t2 t3 h) (avInt_int .i64 t3)) rfl)))
theorem law04_DiskSure_holds {call : CallF} (hc : SaysAll Try.prog call) (n : Nat) : Holds Try.prog 5 (law04_DiskSure_fn call n) := by
  intro args h r h2 e
  unfold law04_DiskSure_fn at e
  split at e
  · replace e := obind_some e; obtain ⟨t0, c0, e⟩ := e; have c0 := avStr_some c0; subst c0
    replace e := obind_some e; obtain ⟨t2, c2, e⟩ := e; have c2 := avInt_some c2; subst c2
    replace e := obind_some e; obtain ⟨t3, c3, e⟩ := e; have c3 := avInt_some c3; subst c3
    exact law04_DiskSure_ok hc e
  · cases e

end Go.Proofs.Ytcbnpdfingfmgaa
