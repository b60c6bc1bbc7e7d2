/- Plain functions in place of the program's, and that their calls come to what they say. -/
import Derived.Test.YtbihkjbhmiemhaaGr
namespace Go.Proofs.Ytbihkjbhmiemhaa
open Go.RowKit Abs

noncomputable def law21_RingCopies_L0b (call : CallF) (t2 : AV) (t3 : AV) (r86 : AV) (r102 : AV) (k93 : AHeap → R) (self : Int → AHeap → R) (t21 : Int) (h_156 : AHeap) : R :=
  obind (lenL t2) fun t112 =>
  lett (decide (t21 < t112)) fun (t113 : Bool) =>
  lett (fun (t119 : Bool) (h_161 : AHeap) =>
    ifB t119
    (
      obind (lenL t2) fun t124 =>
      lett (decide (t21 < t124)) fun (t125 : Bool) =>
      lett (fun  (h_171 : AHeap) =>
        obind (lenL t3) fun t134 =>
        lett (decide (t21 < t134)) fun (t135 : Bool) =>
        lett (fun  (h_176 : AHeap) =>
          lett (IntKind.i64.wrap (t21 + 1)) fun (t121 : Int) =>
          self t121 h_176) fun k175 =>
        ifB t135
        (
          obind (idxP 1 t3 t21) fun t139 =>
          obind (ldCell h_171 t139) fun v140 =>
          obind (avStr v140) fun t140 =>
          callN (call 18 [r102, strA t140] h_171) fun _ h_181 =>
          k175 h_181)
        (
          k175 h_171)) fun k170 =>
      ifB t125
      (
        obind (idxP 1 t2 t21) fun t129 =>
        obind (ldCell h_161 t129) fun v130 =>
        obind (avStr v130) fun t130 =>
        callN (call 18 [r86, strA t130] h_161) fun _ h_186 =>
        k170 h_186)
      (
        k170 h_161))
    (
      k93 h_161)) fun j119 =>
  ifB t113
  (
    j119 true h_156)
  (
    obind (lenL t3) fun t117 =>
    lett (decide (t21 < t117)) fun (t118 : Bool) =>
    j119 t118 h_156)
noncomputable def law21_RingCopies_L0 (call : CallF) (t2 : AV) (t3 : AV) (r86 : AV) (r102 : AV) (k93 : AHeap → R) : Nat → Int → AHeap → R := iterR (fun _ _ => none) (law21_RingCopies_L0b call t2 t3 r86 r102 k93)
theorem law21_RingCopies_L0_s (call : CallF) (t2 : AV) (t3 : AV) (r86 : AV) (r102 : AV) (k93 : AHeap → R) (m : Nat) : law21_RingCopies_L0 call t2 t3 r86 r102 k93 (m + 1) = law21_RingCopies_L0b call t2 t3 r86 r102 k93 (law21_RingCopies_L0 call t2 t3 r86 r102 k93 m) := rfl
noncomputable def law21_RingCopies (call : CallF) (n : Nat) (t0 : Int) (t1 : AV) (t2 : AV) (t3 : AV) (h : AHeap) : R :=
  callN (call 8 [] h) fun r34 h_4 =>
  obind (avBool r34) fun t34 =>
  lett (!t34) fun (t35 : Bool) =>
  ifB t35
  (
    some (.ret (.bool false), h_4))
  (
    callN (call 18 [AV.nilp, strA ([97] : Bytes)] h_4) fun _ h_11 =>
    callN (call 13 [AV.nilp, .int .i64 0, .int .i64 1] h_11) fun r40 h_14 =>
    obind (extT 0 r40) fun v41 =>
    obind (avStr v41) fun t41 =>
    obind (extT 1 r40) fun v42 =>
    obind (avInt .i64 v42) fun t42 =>
    obind (extT 2 r40) fun v43 =>
    obind (avInt .i64 v43) fun t43 =>
    lett (!eqS t41 ([] : Bytes)) fun (t45 : Bool) =>
    lett (fun (t49 : Bool) (h_25 : AHeap) =>
      lett (fun (t53 : Bool) (h_28 : AHeap) =>
        lett (fun (t58 : Bool) (h_31 : AHeap) =>
          lett (fun (t63 : Bool) (h_34 : AHeap) =>
            lett (fun (t68 : Bool) (h_37 : AHeap) =>
              ifB t68
              (
                some (.ret (.bool false), h_37))
              (
                callN (call 9 [t1] h_37) fun r71 h_42 =>
                obind (extT 0 r71) fun v72 =>
                obind (avStr v72) fun t72 =>
                obind (extT 1 r71) fun v73 =>
                obind (avBool v73) fun t73 =>
                callN (call 9 [t2] h_42) fun r76 h_49 =>
                obind (extT 0 r76) fun v77 =>
                obind (avStr v77) fun t77 =>
                obind (extT 1 r76) fun v78 =>
                obind (avBool v78) fun t78 =>
                callN (call 9 [t3] h_49) fun r81 h_56 =>
                obind (extT 0 r81) fun v82 =>
                obind (avStr v82) fun t82 =>
                obind (extT 1 r81) fun v83 =>
                obind (avBool v83) fun t83 =>
                callN (call 11 [.int .i64 t0, t1] h_56) fun r86 h_63 =>
                lett (!t73) fun (t88 : Bool) =>
                lett (fun (t92 : Bool) (h_68 : AHeap) =>
                  lett (fun (t96 : Bool) (h_71 : AHeap) =>
                    lett (fun (t100 : Bool) (h_74 : AHeap) =>
                      ifB t100
                      (
                        some (.ret (.bool true), h_74))
                      (
                        callN (call 19 [r86] h_74) fun r102 h_79 =>
                        outK (opBin Try.prog h_79 .eql 26 true (some r102) (some AV.nilp)) fun v104 h_83 =>
                        obind (avBool v104) fun t104 =>
                        lett (fun (t109 : Bool) (h_86 : AHeap) =>
                          ifB t109
                          (
                            some (.ret (.bool false), h_86))
                          (
                            lett (fun  (h_94 : AHeap) =>
                              callN (call 13 [r86, .int .i64 0, .int .i64 1048576] h_94) fun r144 h_96 =>
                              obind (extT 0 r144) fun v145 =>
                              obind (avStr v145) fun t145 =>
                              obind (extT 1 r144) fun v146 =>
                              obind (avInt .i64 v146) fun t146 =>
                              obind (extT 2 r144) fun v147 =>
                              obind (avInt .i64 v147) fun t147 =>
                              callN (call 13 [r102, .int .i64 0, .int .i64 1048576] h_96) fun r150 h_105 =>
                              obind (extT 0 r150) fun v151 =>
                              obind (avStr v151) fun t151 =>
                              obind (extT 1 r150) fun v152 =>
                              obind (avInt .i64 v152) fun t152 =>
                              obind (extT 2 r150) fun v153 =>
                              obind (avInt .i64 v153) fun t153 =>
                              obind (addS t72 t77) fun t157 =>
                              callN (call 14 [strA t157, .int .i64 t0, .int .i64 0, .int .i64 1048576] h_105) fun r159 h_115 =>
                              obind (extT 0 r159) fun v160 =>
                              obind (avStr v160) fun t160 =>
                              obind (extT 1 r159) fun v161 =>
                              obind (avInt .i64 v161) fun t161 =>
                              obind (extT 2 r159) fun v162 =>
                              obind (avInt .i64 v162) fun _ =>
                              obind (addS t72 t82) fun t166 =>
                              callN (call 14 [strA t166, .int .i64 t0, .int .i64 0, .int .i64 1048576] h_115) fun r168 h_125 =>
                              obind (extT 0 r168) fun v169 =>
                              obind (avStr v169) fun t169 =>
                              obind (extT 1 r168) fun v170 =>
                              obind (avInt .i64 v170) fun t170 =>
                              obind (extT 2 r168) fun v171 =>
                              obind (avInt .i64 v171) fun _ =>
                              lett ((t147 : Int) == 0) fun (t173 : Bool) =>
                              lett (fun (t177 : Bool) (h_135 : AHeap) =>
                                lett (fun (t182 : Bool) (h_138 : AHeap) =>
                                  lett (fun (t187 : Bool) (h_141 : AHeap) =>
                                    lett (fun (t192 : Bool) (h_144 : AHeap) =>
                                      lett (fun (t197 : Bool) (h_147 : AHeap) =>
                                        some (.ret (.bool t197), h_147)) fun j197 =>
                                      ifB t192
                                      (
                                        lett ((t152 : Int) == t170) fun (t196 : Bool) =>
                                        j197 t196 h_144)
                                      (
                                        j197 false h_144)) fun j192 =>
                                    ifB t187
                                    (
                                      lett (eqS t151 t169) fun (t191 : Bool) =>
                                      j192 t191 h_141)
                                    (
                                      j192 false h_141)) fun j187 =>
                                  ifB t182
                                  (
                                    lett ((t146 : Int) == t161) fun (t186 : Bool) =>
                                    j187 t186 h_138)
                                  (
                                    j187 false h_138)) fun j182 =>
                                ifB t177
                                (
                                  lett (eqS t145 t160) fun (t181 : Bool) =>
                                  j182 t181 h_135)
                                (
                                  j182 false h_135)) fun j177 =>
                              ifB t173
                              (
                                lett ((t153 : Int) == 0) fun (t176 : Bool) =>
                                j177 t176 h_125)
                              (
                                j177 false h_125)) fun k93 =>
                            law21_RingCopies_L0 call t2 t3 r86 r102 k93 n 0 h_86)) fun j109 =>
                        ifB t104
                        (
                          j109 true h_83)
                        (
                          outK (opBinV Try.prog h_83 .eql 26 false (some r102) (some r86)) fun v108 h_190 =>
                          obind (avBool v108) fun t108 =>
                          j109 t108 h_190))) fun j100 =>
                    ifB t96
                    (
                      j100 true h_71)
                    (
                      outK (opBin Try.prog h_71 .eql 26 true (some r86) (some AV.nilp)) fun v99 h_193 =>
                      obind (avBool v99) fun t99 =>
                      j100 t99 h_193)) fun j96 =>
                  ifB t92
                  (
                    j96 true h_68)
                  (
                    lett (!t83) fun (t95 : Bool) =>
                    j96 t95 h_68)) fun j92 =>
                ifB t88
                (
                  j92 true h_63)
                (
                  lett (!t78) fun (t91 : Bool) =>
                  j92 t91 h_63))) fun j68 =>
            ifB t63
            (
              j68 true h_34)
            (
              callN (call 19 [AV.nilp] h_34) fun r66 h_198 =>
              outK (opBin Try.prog h_198 .neq 26 true (some r66) (some AV.nilp)) fun v67 h_200 =>
              obind (avBool v67) fun t67 =>
              j68 t67 h_200)) fun j63 =>
          ifB t58
          (
            j63 true h_31)
          (
            callN (call 15 [AV.nilp] h_31) fun r61 h_203 =>
            obind (avInt .i64 r61) fun t61 =>
            lett ((t61 : Int) != 0) fun (t62 : Bool) =>
            j63 t62 h_203)) fun j58 =>
        ifB t53
        (
          j58 true h_28)
        (
          callN (call 16 [AV.nilp] h_28) fun r56 h_207 =>
          obind (avInt .i64 r56) fun t56 =>
          lett ((t56 : Int) != 0) fun (t57 : Bool) =>
          j58 t57 h_207)) fun j53 =>
      ifB t49
      (
        j53 true h_25)
      (
        lett ((t43 : Int) != 1) fun (t52 : Bool) =>
        j53 t52 h_25)) fun j49 =>
    ifB t45
    (
      j49 true h_14)
    (
      lett ((t42 : Int) != 0) fun (t48 : Bool) =>
      j49 t48 h_14))
set_option maxHeartbeats 4000000 in
set_option maxRecDepth 20000 in
theorem law21_RingCopies_ok {call : CallF} (hc : SaysAll Try.prog call) {n : Nat} {t0 : Int} {t1 : AV} {t2 : AV} {t3 : AV} {h : AHeap} {rR : ARes} {hR : AHeap} (hF : law21_RingCopies call n t0 t1 t2 t3 h = some (rR, hR)) : Says Try.prog 6 [.int .i64 t0, t1, t2, t3] h rR hR := by
  unfold law21_RingCopies at hF
  refine says_of (fn := Try.f6) Try.func6 (c := codeOf Try.f6) (by kernel_rfl) (by kernel_rfl) (fun w0 m0 => ?_)
  refine W.weaken (l' := [(0, .int .i64 t0), (1, t1), (2, t2), (3, t3)]) (Fr.sub_cons (by kernel_rfl) (Fr.sub_cons (by kernel_rfl) (Fr.sub_cons (by kernel_rfl) (Fr.sub_cons (by kernel_rfl) (Fr.sub_nil _))))) ?_
  refine W.seqK (by kernel_rfl) (fun K1 n1 e1 r1 p1 => ?_)
  refine W.region (by kernel_rfl) ?_
  refine WL.val (d := (some 8)) (v := .bool false) (h' := h) (by kernel_rfl) (by kernel_rfl) (by kernel_rfl) ?_
  refine WL.nil (by kernel_rfl) ?_
  refine Go.weaken (l' := [(0, .int .i64 t0), (1, t1), (2, t2), (3, t3)]) (Fr.sub_cons (by kernel_rfl) (Fr.sub_cons (by kernel_rfl) (Fr.sub_cons (by kernel_rfl) (Fr.sub_cons (by kernel_rfl) (Fr.sub_nil _))))) ?_
  refine n1 ?_
  refine W.seqK (by kernel_rfl) (fun K2 n2 e2 r2 p2 => ?_)
  refine W.seqK (by kernel_rfl) (fun K3 n3 e3 r3 p3 => ?_)
  refine W.region (by kernel_rfl) ?_
  replace hF := callN_some hF; obtain ⟨r34, h_4, e5, hF⟩ := hF
  replace hF := obind_some hF; obtain ⟨t34, c6, hF⟩ := hF
  have c6 := avBool_some c6
  subst c6
  refine WL.call (hc.ok w0) (d := (some 34)) (by kernel_rfl) (by kernel_rfl) (by kernel_rfl) e5 ?_
  replace hF := lett_some hF; obtain ⟨t35, e7, hF⟩ := hF
  refine WL.val (d := (some 35)) (v := .bool t35) (h' := h_4) (by kernel_rfl) (by kernel_rfl) (val_of AV.bool e7 (by kernel_rfl)) ?_
  refine WL.nil (by kernel_rfl) ?_
  refine Go.weaken (l' := [(0, .int .i64 t0), (1, t1), (2, t2), (3, t3), (35, .bool t35)]) (Fr.sub_cons (by kernel_rfl) (Fr.sub_cons (by kernel_rfl) (Fr.sub_cons (by kernel_rfl) (Fr.sub_cons (by kernel_rfl) (Fr.sub_cons (by kernel_rfl) (Fr.sub_nil _)))))) ?_
  refine n3 ?_
  cases t35 with
  | true =>
    replace hF := ifB_t hF
    refine W.cond_true (by kernel_rfl) (by kernel_rfl) ?_
    refine W.seqK (by kernel_rfl) (fun K8 n8 e8 r8 p8 => ?_)
    refine W.region (by kernel_rfl) ?_
    refine WL.val (d := (some 8)) (v := .bool false) (h' := h_4) (by kernel_rfl) (by kernel_rfl) (by kernel_rfl) ?_
    refine WL.nil (by kernel_rfl) ?_
    refine Go.weaken (l' := [(8, .bool false)]) (Fr.sub_cons (by kernel_rfl) (Fr.sub_nil _)) ?_
    refine n8 ?_
    refine W.ret (by kernel_rfl) ?_
    refine r2 ?_
    obtain ⟨hF, hF2⟩ := ret_inj hF; subst hF; subst hF2
    exact leave_of (rs := [.tmp 8]) (vs := [.bool false]) (by kernel_rfl) (res_tmp (by kernel_rfl) res_nil) (by kernel_rfl)
  | false =>
    replace hF := ifB_f hF
    refine W.cond_false (by kernel_rfl) (by kernel_rfl) ?_
    refine W.skip (by kernel_rfl) ?_
    refine n2 ?_
    refine W.seqK (by kernel_rfl) (fun K9 n9 e9 r9 p9 => ?_)
    refine W.region (by kernel_rfl) ?_
    refine WL.val (d := (some 9)) (v := AV.nilp) (h' := h_4) (by kernel_rfl) (by kernel_rfl) (by kernel_rfl) ?_
    refine WL.nil (by kernel_rfl) ?_
    refine Go.weaken (l' := [(0, .int .i64 t0), (1, t1), (2, t2), (3, t3), (9, AV.nilp)]) (Fr.sub_cons (by kernel_rfl) (Fr.sub_cons (by kernel_rfl) (Fr.sub_cons (by kernel_rfl) (Fr.sub_cons (by kernel_rfl) (Fr.sub_cons (by kernel_rfl) (Fr.sub_nil _)))))) ?_
    refine n9 ?_
    refine W.seqK (by kernel_rfl) (fun K10 n10 e10 r10 p10 => ?_)
    refine W.region (by kernel_rfl) ?_
    refine WL.val (d := (some 36)) (v := AV.nilp) (h' := h_4) (by kernel_rfl) (by kernel_rfl) (by kernel_rfl) ?_
    replace hF := callN_some hF; obtain ⟨r37, h_11, e12, hF⟩ := hF
    refine WL.call (hc.ok w0) (d := (some 37)) (by kernel_rfl) (by kernel_rfl) (by kernel_rfl) e12 ?_
    refine WL.nil (by kernel_rfl) ?_
    refine Go.weaken (l' := [(0, .int .i64 t0), (1, t1), (2, t2), (3, t3), (9, AV.nilp)]) (Fr.sub_cons (by kernel_rfl) (Fr.sub_cons (by kernel_rfl) (Fr.sub_cons (by kernel_rfl) (Fr.sub_cons (by kernel_rfl) (Fr.sub_cons (by kernel_rfl) (Fr.sub_nil _)))))) ?_
    refine n10 ?_
    refine W.seqK (by kernel_rfl) (fun K13 n13 e13 r13 p13 => ?_)
    refine W.region (by kernel_rfl) ?_
    refine WL.val (d := (some 39)) (v := AV.nilp) (h' := h_11) (by kernel_rfl) (by kernel_rfl) (by kernel_rfl) ?_
    replace hF := callN_some hF; obtain ⟨r40, h_14, e15, hF⟩ := hF
    refine WL.call (hc.ok w0) (d := (some 40)) (by kernel_rfl) (by kernel_rfl) (by kernel_rfl) e15 ?_
    refine WL.val (d := (some 38)) (v := r40) (h' := h_14) (by kernel_rfl) (by kernel_rfl) (by kernel_rfl) ?_
    replace hF := obind_some hF; obtain ⟨v41, e16, hF⟩ := hF
    replace hF := obind_some hF; obtain ⟨t41, c17, hF⟩ := hF
    have c17 := avStr_some c17
    subst c17
    refine WL.val (d := (some 41)) (v := strA t41) (h' := h_14) (by kernel_rfl) (by kernel_rfl) (Eq.trans (by kernel_rfl) (extract_tup (h := h_14) e16)) ?_
    replace hF := obind_some hF; obtain ⟨v42, e18, hF⟩ := hF
    replace hF := obind_some hF; obtain ⟨t42, c19, hF⟩ := hF
    have c19 := avInt_some c19
    subst c19
    refine WL.val (d := (some 42)) (v := .int .i64 t42) (h' := h_14) (by kernel_rfl) (by kernel_rfl) (Eq.trans (by kernel_rfl) (extract_tup (h := h_14) e18)) ?_
    replace hF := obind_some hF; obtain ⟨v43, e20, hF⟩ := hF
    replace hF := obind_some hF; obtain ⟨t43, c21, hF⟩ := hF
    have c21 := avInt_some c21
    subst c21
    refine WL.val (d := (some 43)) (v := .int .i64 t43) (h' := h_14) (by kernel_rfl) (by kernel_rfl) (Eq.trans (by kernel_rfl) (extract_tup (h := h_14) e20)) ?_
    refine WL.val (d := (some 10)) (v := strA t41) (h' := h_14) (by kernel_rfl) (by kernel_rfl) (by kernel_rfl) ?_
    refine WL.val (d := (some 11)) (v := .int .i64 t42) (h' := h_14) (by kernel_rfl) (by kernel_rfl) (by kernel_rfl) ?_
    refine WL.val (d := (some 12)) (v := .int .i64 t43) (h' := h_14) (by kernel_rfl) (by kernel_rfl) (by kernel_rfl) ?_
    refine WL.nil (by kernel_rfl) ?_
    refine Go.weaken (l' := [(0, .int .i64 t0), (1, t1), (2, t2), (3, t3), (9, AV.nilp), (10, strA t41), (11, .int .i64 t42), (12, .int .i64 t43)]) (Fr.sub_cons (by kernel_rfl) (Fr.sub_cons (by kernel_rfl) (Fr.sub_cons (by kernel_rfl) (Fr.sub_cons (by kernel_rfl) (Fr.sub_cons (by kernel_rfl) (Fr.sub_cons (by kernel_rfl) (Fr.sub_cons (by kernel_rfl) (Fr.sub_cons (by kernel_rfl) (Fr.sub_nil _))))))))) ?_
    refine n13 ?_
    refine W.seqK (by kernel_rfl) (fun K22 n22 e22 r22 p22 => ?_)
    refine W.seqK (by kernel_rfl) (fun K23 n23 e23 r23 p23 => ?_)
    refine W.region (by kernel_rfl) ?_
    refine WL.val (d := (some 44)) (v := strA t41) (h' := h_14) (by kernel_rfl) (by kernel_rfl) (by kernel_rfl) ?_
    replace hF := lett_some hF; obtain ⟨t45, e24, hF⟩ := hF
    refine WL.val (d := (some 45)) (v := .bool t45) (h' := h_14) (by kernel_rfl) (by kernel_rfl) (val_of AV.bool e24 (by kernel_rfl)) ?_
    refine WL.val (d := (some 46)) (v := .bool t45) (h' := h_14) (by kernel_rfl) (by kernel_rfl) (by kernel_rfl) ?_
    replace hF := lett_some hF; obtain ⟨j49, e26, hF⟩ := hF
    have J27 : ∀ (t49 : Bool) (h_25 : AHeap), j49 t49 h_25 = some (rR, hR) → WL Try.prog w0 m0 (Func.ntmps Try.f6) (Code.ops (Code.p1 (Code.p1 (Code.p2 (Code.p2 (Code.p2 (Code.p2 (Code.p2 (codeOf Try.f6))))))))) 6 K23 [(0, .int .i64 t0), (1, t1), (2, t2), (3, t3), (9, AV.nilp), (12, .int .i64 t43), (49, .bool t49)] [] h_25 := by
      intro t49 h_25 hF
      rw [e26] at hF
      refine WL.val (d := (some 50)) (v := .bool t49) (h' := h_25) (by kernel_rfl) (by kernel_rfl) (by kernel_rfl) ?_
      replace hF := lett_some hF; obtain ⟨j53, e29, hF⟩ := hF
      have J30 : ∀ (t53 : Bool) (h_28 : AHeap), j53 t53 h_28 = some (rR, hR) → WL Try.prog w0 m0 (Func.ntmps Try.f6) (Code.ops (Code.p1 (Code.p1 (Code.p2 (Code.p2 (Code.p2 (Code.p2 (Code.p2 (codeOf Try.f6))))))))) 10 K23 [(0, .int .i64 t0), (1, t1), (2, t2), (3, t3), (9, AV.nilp), (53, .bool t53)] [] h_28 := by
        intro t53 h_28 hF
        rw [e29] at hF
        refine WL.val (d := (some 54)) (v := .bool t53) (h' := h_28) (by kernel_rfl) (by kernel_rfl) (by kernel_rfl) ?_
        replace hF := lett_some hF; obtain ⟨j58, e32, hF⟩ := hF
        have J33 : ∀ (t58 : Bool) (h_31 : AHeap), j58 t58 h_31 = some (rR, hR) → WL Try.prog w0 m0 (Func.ntmps Try.f6) (Code.ops (Code.p1 (Code.p1 (Code.p2 (Code.p2 (Code.p2 (Code.p2 (Code.p2 (codeOf Try.f6))))))))) 15 K23 [(0, .int .i64 t0), (1, t1), (2, t2), (3, t3), (9, AV.nilp), (58, .bool t58)] [] h_31 := by
          intro t58 h_31 hF
          rw [e32] at hF
          refine WL.val (d := (some 59)) (v := .bool t58) (h' := h_31) (by kernel_rfl) (by kernel_rfl) (by kernel_rfl) ?_
          replace hF := lett_some hF; obtain ⟨j63, e35, hF⟩ := hF
          have J36 : ∀ (t63 : Bool) (h_34 : AHeap), j63 t63 h_34 = some (rR, hR) → WL Try.prog w0 m0 (Func.ntmps Try.f6) (Code.ops (Code.p1 (Code.p1 (Code.p2 (Code.p2 (Code.p2 (Code.p2 (Code.p2 (codeOf Try.f6))))))))) 20 K23 [(0, .int .i64 t0), (1, t1), (2, t2), (3, t3), (9, AV.nilp), (63, .bool t63)] [] h_34 := by
            intro t63 h_34 hF
            rw [e35] at hF
            refine WL.val (d := (some 64)) (v := .bool t63) (h' := h_34) (by kernel_rfl) (by kernel_rfl) (by kernel_rfl) ?_
            replace hF := lett_some hF; obtain ⟨j68, e38, hF⟩ := hF
            have J39 : ∀ (t68 : Bool) (h_37 : AHeap), j68 t68 h_37 = some (rR, hR) → WL Try.prog w0 m0 (Func.ntmps Try.f6) (Code.ops (Code.p1 (Code.p1 (Code.p2 (Code.p2 (Code.p2 (Code.p2 (Code.p2 (codeOf Try.f6))))))))) 25 K23 [(0, .int .i64 t0), (1, t1), (2, t2), (3, t3), (68, .bool t68)] [] h_37 := by
              intro t68 h_37 hF
              rw [e38] at hF
              refine WL.nil (by kernel_rfl) ?_
              refine Go.weaken (l' := [(0, .int .i64 t0), (1, t1), (2, t2), (3, t3), (68, .bool t68)]) (Fr.sub_cons (by kernel_rfl) (Fr.sub_cons (by kernel_rfl) (Fr.sub_cons (by kernel_rfl) (Fr.sub_cons (by kernel_rfl) (Fr.sub_cons (by kernel_rfl) (Fr.sub_nil _)))))) ?_
              refine n23 ?_
              cases t68 with
              | true =>
                replace hF := ifB_t hF
                refine W.cond_true (by kernel_rfl) (by kernel_rfl) ?_
                refine W.seqK (by kernel_rfl) (fun K40 n40 e40 r40 p40 => ?_)
                refine W.region (by kernel_rfl) ?_
                refine WL.val (d := (some 8)) (v := .bool false) (h' := h_37) (by kernel_rfl) (by kernel_rfl) (by kernel_rfl) ?_
                refine WL.nil (by kernel_rfl) ?_
                refine Go.weaken (l' := [(8, .bool false)]) (Fr.sub_cons (by kernel_rfl) (Fr.sub_nil _)) ?_
                refine n40 ?_
                refine W.ret (by kernel_rfl) ?_
                refine r22 ?_
                obtain ⟨hF, hF2⟩ := ret_inj hF; subst hF; subst hF2
                exact leave_of (rs := [.tmp 8]) (vs := [.bool false]) (by kernel_rfl) (res_tmp (by kernel_rfl) res_nil) (by kernel_rfl)
              | false =>
                replace hF := ifB_f hF
                refine W.cond_false (by kernel_rfl) (by kernel_rfl) ?_
                refine W.skip (by kernel_rfl) ?_
                refine n22 ?_
                refine W.seqK (by kernel_rfl) (fun K41 n41 e41 r41 p41 => ?_)
                refine W.region (by kernel_rfl) ?_
                refine WL.val (d := (some 70)) (v := t1) (h' := h_37) (by kernel_rfl) (by kernel_rfl) (by kernel_rfl) ?_
                replace hF := callN_some hF; obtain ⟨r71, h_42, e43, hF⟩ := hF
                refine WL.call (hc.ok w0) (d := (some 71)) (by kernel_rfl) (by kernel_rfl) (by kernel_rfl) e43 ?_
                refine WL.val (d := (some 69)) (v := r71) (h' := h_42) (by kernel_rfl) (by kernel_rfl) (by kernel_rfl) ?_
                replace hF := obind_some hF; obtain ⟨v72, e44, hF⟩ := hF
                replace hF := obind_some hF; obtain ⟨t72, c45, hF⟩ := hF
                have c45 := avStr_some c45
                subst c45
                refine WL.val (d := (some 72)) (v := strA t72) (h' := h_42) (by kernel_rfl) (by kernel_rfl) (Eq.trans (by kernel_rfl) (extract_tup (h := h_42) e44)) ?_
                replace hF := obind_some hF; obtain ⟨v73, e46, hF⟩ := hF
                replace hF := obind_some hF; obtain ⟨t73, c47, hF⟩ := hF
                have c47 := avBool_some c47
                subst c47
                refine WL.val (d := (some 73)) (v := .bool t73) (h' := h_42) (by kernel_rfl) (by kernel_rfl) (Eq.trans (by kernel_rfl) (extract_tup (h := h_42) e46)) ?_
                refine WL.val (d := (some 13)) (v := strA t72) (h' := h_42) (by kernel_rfl) (by kernel_rfl) (by kernel_rfl) ?_
                refine WL.val (d := (some 14)) (v := .bool t73) (h' := h_42) (by kernel_rfl) (by kernel_rfl) (by kernel_rfl) ?_
                refine WL.nil (by kernel_rfl) ?_
                refine Go.weaken (l' := [(0, .int .i64 t0), (1, t1), (2, t2), (3, t3), (13, strA t72), (14, .bool t73)]) (Fr.sub_cons (by kernel_rfl) (Fr.sub_cons (by kernel_rfl) (Fr.sub_cons (by kernel_rfl) (Fr.sub_cons (by kernel_rfl) (Fr.sub_cons (by kernel_rfl) (Fr.sub_cons (by kernel_rfl) (Fr.sub_nil _))))))) ?_
                refine n41 ?_
                refine W.seqK (by kernel_rfl) (fun K48 n48 e48 r48 p48 => ?_)
                refine W.region (by kernel_rfl) ?_
                refine WL.val (d := (some 75)) (v := t2) (h' := h_42) (by kernel_rfl) (by kernel_rfl) (by kernel_rfl) ?_
                replace hF := callN_some hF; obtain ⟨r76, h_49, e50, hF⟩ := hF
                refine WL.call (hc.ok w0) (d := (some 76)) (by kernel_rfl) (by kernel_rfl) (by kernel_rfl) e50 ?_
                refine WL.val (d := (some 74)) (v := r76) (h' := h_49) (by kernel_rfl) (by kernel_rfl) (by kernel_rfl) ?_
                replace hF := obind_some hF; obtain ⟨v77, e51, hF⟩ := hF
                replace hF := obind_some hF; obtain ⟨t77, c52, hF⟩ := hF
                have c52 := avStr_some c52
                subst c52
                refine WL.val (d := (some 77)) (v := strA t77) (h' := h_49) (by kernel_rfl) (by kernel_rfl) (Eq.trans (by kernel_rfl) (extract_tup (h := h_49) e51)) ?_
                replace hF := obind_some hF; obtain ⟨v78, e53, hF⟩ := hF
                replace hF := obind_some hF; obtain ⟨t78, c54, hF⟩ := hF
                have c54 := avBool_some c54
                subst c54
                refine WL.val (d := (some 78)) (v := .bool t78) (h' := h_49) (by kernel_rfl) (by kernel_rfl) (Eq.trans (by kernel_rfl) (extract_tup (h := h_49) e53)) ?_
                refine WL.val (d := (some 15)) (v := strA t77) (h' := h_49) (by kernel_rfl) (by kernel_rfl) (by kernel_rfl) ?_
                refine WL.val (d := (some 16)) (v := .bool t78) (h' := h_49) (by kernel_rfl) (by kernel_rfl) (by kernel_rfl) ?_
                refine WL.nil (by kernel_rfl) ?_
                refine Go.weaken (l' := [(0, .int .i64 t0), (1, t1), (2, t2), (3, t3), (13, strA t72), (14, .bool t73), (15, strA t77), (16, .bool t78)]) (Fr.sub_cons (by kernel_rfl) (Fr.sub_cons (by kernel_rfl) (Fr.sub_cons (by kernel_rfl) (Fr.sub_cons (by kernel_rfl) (Fr.sub_cons (by kernel_rfl) (Fr.sub_cons (by kernel_rfl) (Fr.sub_cons (by kernel_rfl) (Fr.sub_cons (by kernel_rfl) (Fr.sub_nil _))))))))) ?_
                refine n48 ?_
                refine W.seqK (by kernel_rfl) (fun K55 n55 e55 r55 p55 => ?_)
                refine W.region (by kernel_rfl) ?_
                refine WL.val (d := (some 80)) (v := t3) (h' := h_49) (by kernel_rfl) (by kernel_rfl) (by kernel_rfl) ?_
                replace hF := callN_some hF; obtain ⟨r81, h_56, e57, hF⟩ := hF
                refine WL.call (hc.ok w0) (d := (some 81)) (by kernel_rfl) (by kernel_rfl) (by kernel_rfl) e57 ?_
                refine WL.val (d := (some 79)) (v := r81) (h' := h_56) (by kernel_rfl) (by kernel_rfl) (by kernel_rfl) ?_
                replace hF := obind_some hF; obtain ⟨v82, e58, hF⟩ := hF
                replace hF := obind_some hF; obtain ⟨t82, c59, hF⟩ := hF
                have c59 := avStr_some c59
                subst c59
                refine WL.val (d := (some 82)) (v := strA t82) (h' := h_56) (by kernel_rfl) (by kernel_rfl) (Eq.trans (by kernel_rfl) (extract_tup (h := h_56) e58)) ?_
                replace hF := obind_some hF; obtain ⟨v83, e60, hF⟩ := hF
                replace hF := obind_some hF; obtain ⟨t83, c61, hF⟩ := hF
                have c61 := avBool_some c61
                subst c61
                refine WL.val (d := (some 83)) (v := .bool t83) (h' := h_56) (by kernel_rfl) (by kernel_rfl) (Eq.trans (by kernel_rfl) (extract_tup (h := h_56) e60)) ?_
                refine WL.val (d := (some 17)) (v := strA t82) (h' := h_56) (by kernel_rfl) (by kernel_rfl) (by kernel_rfl) ?_
                refine WL.val (d := (some 18)) (v := .bool t83) (h' := h_56) (by kernel_rfl) (by kernel_rfl) (by kernel_rfl) ?_
                refine WL.nil (by kernel_rfl) ?_
                refine Go.weaken (l' := [(0, .int .i64 t0), (1, t1), (2, t2), (3, t3), (13, strA t72), (14, .bool t73), (15, strA t77), (16, .bool t78), (17, strA t82), (18, .bool t83)]) (Fr.sub_cons (by kernel_rfl) (Fr.sub_cons (by kernel_rfl) (Fr.sub_cons (by kernel_rfl) (Fr.sub_cons (by kernel_rfl) (Fr.sub_cons (by kernel_rfl) (Fr.sub_cons (by kernel_rfl) (Fr.sub_cons (by kernel_rfl) (Fr.sub_cons (by kernel_rfl) (Fr.sub_cons (by kernel_rfl) (Fr.sub_cons (by kernel_rfl) (Fr.sub_nil _))))))))))) ?_
                refine n55 ?_
                refine W.seqK (by kernel_rfl) (fun K62 n62 e62 r62 p62 => ?_)
                refine W.region (by kernel_rfl) ?_
                refine WL.val (d := (some 84)) (v := .int .i64 t0) (h' := h_56) (by kernel_rfl) (by kernel_rfl) (by kernel_rfl) ?_
                refine WL.val (d := (some 85)) (v := t1) (h' := h_56) (by kernel_rfl) (by kernel_rfl) (by kernel_rfl) ?_
                replace hF := callN_some hF; obtain ⟨r86, h_63, e64, hF⟩ := hF
                refine WL.call (hc.ok w0) (d := (some 86)) (by kernel_rfl) (by kernel_rfl) (by kernel_rfl) e64 ?_
                refine WL.val (d := (some 19)) (v := r86) (h' := h_63) (by kernel_rfl) (by kernel_rfl) (by kernel_rfl) ?_
                refine WL.nil (by kernel_rfl) ?_
                refine Go.weaken (l' := [(0, .int .i64 t0), (2, t2), (3, t3), (13, strA t72), (14, .bool t73), (15, strA t77), (16, .bool t78), (17, strA t82), (18, .bool t83), (19, r86)]) (Fr.sub_cons (by kernel_rfl) (Fr.sub_cons (by kernel_rfl) (Fr.sub_cons (by kernel_rfl) (Fr.sub_cons (by kernel_rfl) (Fr.sub_cons (by kernel_rfl) (Fr.sub_cons (by kernel_rfl) (Fr.sub_cons (by kernel_rfl) (Fr.sub_cons (by kernel_rfl) (Fr.sub_cons (by kernel_rfl) (Fr.sub_cons (by kernel_rfl) (Fr.sub_nil _))))))))))) ?_
                refine n62 ?_
                refine W.seqK (by kernel_rfl) (fun K65 n65 e65 r65 p65 => ?_)
                refine W.seqK (by kernel_rfl) (fun K66 n66 e66 r66 p66 => ?_)
                refine W.region (by kernel_rfl) ?_
                refine WL.val (d := (some 87)) (v := .bool t73) (h' := h_63) (by kernel_rfl) (by kernel_rfl) (by kernel_rfl) ?_
                replace hF := lett_some hF; obtain ⟨t88, e67, hF⟩ := hF
                refine WL.val (d := (some 88)) (v := .bool t88) (h' := h_63) (by kernel_rfl) (by kernel_rfl) (val_of AV.bool e67 (by kernel_rfl)) ?_
                refine WL.val (d := (some 89)) (v := .bool t88) (h' := h_63) (by kernel_rfl) (by kernel_rfl) (by kernel_rfl) ?_
                replace hF := lett_some hF; obtain ⟨j92, e69, hF⟩ := hF
                have J70 : ∀ (t92 : Bool) (h_68 : AHeap), j92 t92 h_68 = some (rR, hR) → WL Try.prog w0 m0 (Func.ntmps Try.f6) (Code.ops (Code.p1 (Code.p1 (Code.p2 (Code.p2 (Code.p2 (Code.p2 (Code.p2 (Code.p2 (Code.p2 (Code.p2 (Code.p2 (Code.p2 (codeOf Try.f6)))))))))))))) 6 K66 [(0, .int .i64 t0), (2, t2), (3, t3), (13, strA t72), (15, strA t77), (17, strA t82), (18, .bool t83), (19, r86), (92, .bool t92)] [] h_68 := by
                  intro t92 h_68 hF
                  rw [e69] at hF
                  refine WL.val (d := (some 93)) (v := .bool t92) (h' := h_68) (by kernel_rfl) (by kernel_rfl) (by kernel_rfl) ?_
                  replace hF := lett_some hF; obtain ⟨j96, e72, hF⟩ := hF
                  have J73 : ∀ (t96 : Bool) (h_71 : AHeap), j96 t96 h_71 = some (rR, hR) → WL Try.prog w0 m0 (Func.ntmps Try.f6) (Code.ops (Code.p1 (Code.p1 (Code.p2 (Code.p2 (Code.p2 (Code.p2 (Code.p2 (Code.p2 (Code.p2 (Code.p2 (Code.p2 (Code.p2 (codeOf Try.f6)))))))))))))) 10 K66 [(0, .int .i64 t0), (2, t2), (3, t3), (13, strA t72), (15, strA t77), (17, strA t82), (19, r86), (96, .bool t96)] [] h_71 := by
                    intro t96 h_71 hF
                    rw [e72] at hF
                    refine WL.val (d := (some 97)) (v := .bool t96) (h' := h_71) (by kernel_rfl) (by kernel_rfl) (by kernel_rfl) ?_
                    replace hF := lett_some hF; obtain ⟨j100, e75, hF⟩ := hF
                    have J76 : ∀ (t100 : Bool) (h_74 : AHeap), j100 t100 h_74 = some (rR, hR) → WL Try.prog w0 m0 (Func.ntmps Try.f6) (Code.ops (Code.p1 (Code.p1 (Code.p2 (Code.p2 (Code.p2 (Code.p2 (Code.p2 (Code.p2 (Code.p2 (Code.p2 (Code.p2 (Code.p2 (codeOf Try.f6)))))))))))))) 14 K66 [(0, .int .i64 t0), (2, t2), (3, t3), (13, strA t72), (15, strA t77), (17, strA t82), (19, r86), (100, .bool t100)] [] h_74 := by
                      intro t100 h_74 hF
                      rw [e75] at hF
                      refine WL.nil (by kernel_rfl) ?_
                      refine Go.weaken (l' := [(0, .int .i64 t0), (2, t2), (3, t3), (13, strA t72), (15, strA t77), (17, strA t82), (19, r86), (100, .bool t100)]) (Fr.sub_cons (by kernel_rfl) (Fr.sub_cons (by kernel_rfl) (Fr.sub_cons (by kernel_rfl) (Fr.sub_cons (by kernel_rfl) (Fr.sub_cons (by kernel_rfl) (Fr.sub_cons (by kernel_rfl) (Fr.sub_cons (by kernel_rfl) (Fr.sub_cons (by kernel_rfl) (Fr.sub_nil _))))))))) ?_
                      refine n66 ?_
                      cases t100 with
                      | true =>
                        replace hF := ifB_t hF
                        refine W.cond_true (by kernel_rfl) (by kernel_rfl) ?_
                        refine W.seqK (by kernel_rfl) (fun K77 n77 e77 r77 p77 => ?_)
                        refine W.region (by kernel_rfl) ?_
                        refine WL.val (d := (some 8)) (v := .bool true) (h' := h_74) (by kernel_rfl) (by kernel_rfl) (by kernel_rfl) ?_
                        refine WL.nil (by kernel_rfl) ?_
                        refine Go.weaken (l' := [(8, .bool true)]) (Fr.sub_cons (by kernel_rfl) (Fr.sub_nil _)) ?_
                        refine n77 ?_
                        refine W.ret (by kernel_rfl) ?_
                        refine r65 ?_
                        obtain ⟨hF, hF2⟩ := ret_inj hF; subst hF; subst hF2
                        exact leave_of (rs := [.tmp 8]) (vs := [.bool true]) (by kernel_rfl) (res_tmp (by kernel_rfl) res_nil) (by kernel_rfl)
                      | false =>
                        replace hF := ifB_f hF
                        refine W.cond_false (by kernel_rfl) (by kernel_rfl) ?_
                        refine W.skip (by kernel_rfl) ?_
                        refine n65 ?_
                        refine W.seqK (by kernel_rfl) (fun K78 n78 e78 r78 p78 => ?_)
                        refine W.region (by kernel_rfl) ?_
                        refine WL.val (d := (some 101)) (v := r86) (h' := h_74) (by kernel_rfl) (by kernel_rfl) (by kernel_rfl) ?_
                        replace hF := callN_some hF; obtain ⟨r102, h_79, e80, hF⟩ := hF
                        refine WL.call (hc.ok w0) (d := (some 102)) (by kernel_rfl) (by kernel_rfl) (by kernel_rfl) e80 ?_
                        refine WL.val (d := (some 20)) (v := r102) (h' := h_79) (by kernel_rfl) (by kernel_rfl) (by kernel_rfl) ?_
                        refine WL.nil (by kernel_rfl) ?_
                        refine Go.weaken (l' := [(0, .int .i64 t0), (2, t2), (3, t3), (13, strA t72), (15, strA t77), (17, strA t82), (19, r86), (20, r102)]) (Fr.sub_cons (by kernel_rfl) (Fr.sub_cons (by kernel_rfl) (Fr.sub_cons (by kernel_rfl) (Fr.sub_cons (by kernel_rfl) (Fr.sub_cons (by kernel_rfl) (Fr.sub_cons (by kernel_rfl) (Fr.sub_cons (by kernel_rfl) (Fr.sub_cons (by kernel_rfl) (Fr.sub_nil _))))))))) ?_
                        refine n78 ?_
                        refine W.seqK (by kernel_rfl) (fun K81 n81 e81 r81 p81 => ?_)
                        refine W.seqK (by kernel_rfl) (fun K82 n82 e82 r82 p82 => ?_)
                        refine W.region (by kernel_rfl) ?_
                        refine WL.val (d := (some 103)) (v := r102) (h' := h_79) (by kernel_rfl) (by kernel_rfl) (by kernel_rfl) ?_
                        replace hF := outK_some hF; obtain ⟨v104, h_83, e84, hF⟩ := hF
                        replace hF := obind_some hF; obtain ⟨t104, c85, hF⟩ := hF
                        have c85 := avBool_some c85
                        subst c85
                        refine WL.val (d := (some 104)) (v := .bool t104) (h' := h_83) (by kernel_rfl) (by kernel_rfl) (Eq.trans (by kernel_rfl) e84) ?_
                        refine WL.val (d := (some 105)) (v := .bool t104) (h' := h_83) (by kernel_rfl) (by kernel_rfl) (by kernel_rfl) ?_
                        replace hF := lett_some hF; obtain ⟨j109, e87, hF⟩ := hF
                        have J88 : ∀ (t109 : Bool) (h_86 : AHeap), j109 t109 h_86 = some (rR, hR) → WL Try.prog w0 m0 (Func.ntmps Try.f6) (Code.ops (Code.p1 (Code.p1 (Code.p2 (Code.p2 (Code.p2 (Code.p2 (Code.p2 (Code.p2 (Code.p2 (Code.p2 (Code.p2 (Code.p2 (Code.p2 (Code.p2 (codeOf Try.f6)))))))))))))))) 7 K82 [(0, .int .i64 t0), (2, t2), (3, t3), (13, strA t72), (15, strA t77), (17, strA t82), (19, r86), (20, r102), (109, .bool t109)] [] h_86 := by
                          intro t109 h_86 hF
                          rw [e87] at hF
                          refine WL.nil (by kernel_rfl) ?_
                          refine Go.weaken (l' := [(0, .int .i64 t0), (2, t2), (3, t3), (13, strA t72), (15, strA t77), (17, strA t82), (19, r86), (20, r102), (109, .bool t109)]) (Fr.sub_cons (by kernel_rfl) (Fr.sub_cons (by kernel_rfl) (Fr.sub_cons (by kernel_rfl) (Fr.sub_cons (by kernel_rfl) (Fr.sub_cons (by kernel_rfl) (Fr.sub_cons (by kernel_rfl) (Fr.sub_cons (by kernel_rfl) (Fr.sub_cons (by kernel_rfl) (Fr.sub_cons (by kernel_rfl) (Fr.sub_nil _)))))))))) ?_
                          refine n82 ?_
                          cases t109 with
                          | true =>
                            replace hF := ifB_t hF
                            refine W.cond_true (by kernel_rfl) (by kernel_rfl) ?_
                            refine W.seqK (by kernel_rfl) (fun K89 n89 e89 r89 p89 => ?_)
                            refine W.region (by kernel_rfl) ?_
                            refine WL.val (d := (some 8)) (v := .bool false) (h' := h_86) (by kernel_rfl) (by kernel_rfl) (by kernel_rfl) ?_
                            refine WL.nil (by kernel_rfl) ?_
                            refine Go.weaken (l' := [(8, .bool false)]) (Fr.sub_cons (by kernel_rfl) (Fr.sub_nil _)) ?_
                            refine n89 ?_
                            refine W.ret (by kernel_rfl) ?_
                            refine r81 ?_
                            obtain ⟨hF, hF2⟩ := ret_inj hF; subst hF; subst hF2
                            exact leave_of (rs := [.tmp 8]) (vs := [.bool false]) (by kernel_rfl) (res_tmp (by kernel_rfl) res_nil) (by kernel_rfl)
                          | false =>
                            replace hF := ifB_f hF
                            refine W.cond_false (by kernel_rfl) (by kernel_rfl) ?_
                            refine W.skip (by kernel_rfl) ?_
                            refine n81 ?_
                            refine W.seqK (by kernel_rfl) (fun K90 n90 e90 r90 p90 => ?_)
                            refine W.seqK (by kernel_rfl) (fun K91 n91 e91 r91 p91 => ?_)
                            refine W.region (by kernel_rfl) ?_
                            refine WL.val (d := (some 21)) (v := .int .i64 0) (h' := h_86) (by kernel_rfl) (by kernel_rfl) (by kernel_rfl) ?_
                            refine WL.nil (by kernel_rfl) ?_
                            refine Go.weaken (l' := [(0, .int .i64 t0), (2, t2), (3, t3), (13, strA t72), (15, strA t77), (17, strA t82), (19, r86), (20, r102), (21, .int .i64 0)]) (Fr.sub_cons (by kernel_rfl) (Fr.sub_cons (by kernel_rfl) (Fr.sub_cons (by kernel_rfl) (Fr.sub_cons (by kernel_rfl) (Fr.sub_cons (by kernel_rfl) (Fr.sub_cons (by kernel_rfl) (Fr.sub_cons (by kernel_rfl) (Fr.sub_cons (by kernel_rfl) (Fr.sub_cons (by kernel_rfl) (Fr.sub_nil _)))))))))) ?_
                            refine n91 ?_
                            replace hF := lett_some hF; obtain ⟨k93, e93, hF⟩ := hF
                            have J93 : ∀  (h_94 : AHeap), k93 h_94 = some (rR, hR) → Go w0 m0 (Func.ntmps Try.f6) (K90 .normal) [(0, .int .i64 t0), (13, strA t72), (15, strA t77), (17, strA t82), (19, r86), (20, r102)] [] h_94 := by
                              intro  h_94 hF
                              rw [e93] at hF
                              refine n90 ?_
                              refine W.seqK (by kernel_rfl) (fun K95 n95 e95 r95 p95 => ?_)
                              refine W.region (by kernel_rfl) ?_
                              refine WL.val (d := (some 143)) (v := r86) (h' := h_94) (by kernel_rfl) (by kernel_rfl) (by kernel_rfl) ?_
                              replace hF := callN_some hF; obtain ⟨r144, h_96, e97, hF⟩ := hF
                              refine WL.call (hc.ok w0) (d := (some 144)) (by kernel_rfl) (by kernel_rfl) (by kernel_rfl) e97 ?_
                              refine WL.val (d := (some 142)) (v := r144) (h' := h_96) (by kernel_rfl) (by kernel_rfl) (by kernel_rfl) ?_
                              replace hF := obind_some hF; obtain ⟨v145, e98, hF⟩ := hF
                              replace hF := obind_some hF; obtain ⟨t145, c99, hF⟩ := hF
                              have c99 := avStr_some c99
                              subst c99
                              refine WL.val (d := (some 145)) (v := strA t145) (h' := h_96) (by kernel_rfl) (by kernel_rfl) (Eq.trans (by kernel_rfl) (extract_tup (h := h_96) e98)) ?_
                              replace hF := obind_some hF; obtain ⟨v146, e100, hF⟩ := hF
                              replace hF := obind_some hF; obtain ⟨t146, c101, hF⟩ := hF
                              have c101 := avInt_some c101
                              subst c101
                              refine WL.val (d := (some 146)) (v := .int .i64 t146) (h' := h_96) (by kernel_rfl) (by kernel_rfl) (Eq.trans (by kernel_rfl) (extract_tup (h := h_96) e100)) ?_
                              replace hF := obind_some hF; obtain ⟨v147, e102, hF⟩ := hF
                              replace hF := obind_some hF; obtain ⟨t147, c103, hF⟩ := hF
                              have c103 := avInt_some c103
                              subst c103
                              refine WL.val (d := (some 147)) (v := .int .i64 t147) (h' := h_96) (by kernel_rfl) (by kernel_rfl) (Eq.trans (by kernel_rfl) (extract_tup (h := h_96) e102)) ?_
                              refine WL.val (d := (some 22)) (v := strA t145) (h' := h_96) (by kernel_rfl) (by kernel_rfl) (by kernel_rfl) ?_
                              refine WL.val (d := (some 23)) (v := .int .i64 t146) (h' := h_96) (by kernel_rfl) (by kernel_rfl) (by kernel_rfl) ?_
                              refine WL.val (d := (some 24)) (v := .int .i64 t147) (h' := h_96) (by kernel_rfl) (by kernel_rfl) (by kernel_rfl) ?_
                              refine WL.nil (by kernel_rfl) ?_
                              refine Go.weaken (l' := [(0, .int .i64 t0), (13, strA t72), (15, strA t77), (17, strA t82), (20, r102), (22, strA t145), (23, .int .i64 t146), (24, .int .i64 t147)]) (Fr.sub_cons (by kernel_rfl) (Fr.sub_cons (by kernel_rfl) (Fr.sub_cons (by kernel_rfl) (Fr.sub_cons (by kernel_rfl) (Fr.sub_cons (by kernel_rfl) (Fr.sub_cons (by kernel_rfl) (Fr.sub_cons (by kernel_rfl) (Fr.sub_cons (by kernel_rfl) (Fr.sub_nil _))))))))) ?_
                              refine n95 ?_
                              refine W.seqK (by kernel_rfl) (fun K104 n104 e104 r104 p104 => ?_)
                              refine W.region (by kernel_rfl) ?_
                              refine WL.val (d := (some 149)) (v := r102) (h' := h_96) (by kernel_rfl) (by kernel_rfl) (by kernel_rfl) ?_
                              replace hF := callN_some hF; obtain ⟨r150, h_105, e106, hF⟩ := hF
                              refine WL.call (hc.ok w0) (d := (some 150)) (by kernel_rfl) (by kernel_rfl) (by kernel_rfl) e106 ?_
                              refine WL.val (d := (some 148)) (v := r150) (h' := h_105) (by kernel_rfl) (by kernel_rfl) (by kernel_rfl) ?_
                              replace hF := obind_some hF; obtain ⟨v151, e107, hF⟩ := hF
                              replace hF := obind_some hF; obtain ⟨t151, c108, hF⟩ := hF
                              have c108 := avStr_some c108
                              subst c108
                              refine WL.val (d := (some 151)) (v := strA t151) (h' := h_105) (by kernel_rfl) (by kernel_rfl) (Eq.trans (by kernel_rfl) (extract_tup (h := h_105) e107)) ?_
                              replace hF := obind_some hF; obtain ⟨v152, e109, hF⟩ := hF
                              replace hF := obind_some hF; obtain ⟨t152, c110, hF⟩ := hF
                              have c110 := avInt_some c110
                              subst c110
                              refine WL.val (d := (some 152)) (v := .int .i64 t152) (h' := h_105) (by kernel_rfl) (by kernel_rfl) (Eq.trans (by kernel_rfl) (extract_tup (h := h_105) e109)) ?_
                              replace hF := obind_some hF; obtain ⟨v153, e111, hF⟩ := hF
                              replace hF := obind_some hF; obtain ⟨t153, c112, hF⟩ := hF
                              have c112 := avInt_some c112
                              subst c112
                              refine WL.val (d := (some 153)) (v := .int .i64 t153) (h' := h_105) (by kernel_rfl) (by kernel_rfl) (Eq.trans (by kernel_rfl) (extract_tup (h := h_105) e111)) ?_
                              refine WL.val (d := (some 25)) (v := strA t151) (h' := h_105) (by kernel_rfl) (by kernel_rfl) (by kernel_rfl) ?_
                              refine WL.val (d := (some 26)) (v := .int .i64 t152) (h' := h_105) (by kernel_rfl) (by kernel_rfl) (by kernel_rfl) ?_
                              refine WL.val (d := (some 27)) (v := .int .i64 t153) (h' := h_105) (by kernel_rfl) (by kernel_rfl) (by kernel_rfl) ?_
                              refine WL.nil (by kernel_rfl) ?_
                              refine Go.weaken (l' := [(0, .int .i64 t0), (13, strA t72), (15, strA t77), (17, strA t82), (22, strA t145), (23, .int .i64 t146), (24, .int .i64 t147), (25, strA t151), (26, .int .i64 t152), (27, .int .i64 t153)]) (Fr.sub_cons (by kernel_rfl) (Fr.sub_cons (by kernel_rfl) (Fr.sub_cons (by kernel_rfl) (Fr.sub_cons (by kernel_rfl) (Fr.sub_cons (by kernel_rfl) (Fr.sub_cons (by kernel_rfl) (Fr.sub_cons (by kernel_rfl) (Fr.sub_cons (by kernel_rfl) (Fr.sub_cons (by kernel_rfl) (Fr.sub_cons (by kernel_rfl) (Fr.sub_nil _))))))))))) ?_
                              refine n104 ?_
                              refine W.seqK (by kernel_rfl) (fun K113 n113 e113 r113 p113 => ?_)
                              refine W.region (by kernel_rfl) ?_
                              refine WL.val (d := (some 155)) (v := strA t72) (h' := h_105) (by kernel_rfl) (by kernel_rfl) (by kernel_rfl) ?_
                              refine WL.val (d := (some 156)) (v := strA t77) (h' := h_105) (by kernel_rfl) (by kernel_rfl) (by kernel_rfl) ?_
                              replace hF := obind_some hF; obtain ⟨t157, e114, hF⟩ := hF
                              refine WL.val (d := (some 157)) (v := strA t157) (h' := h_105) (by kernel_rfl) (by kernel_rfl) (Eq.trans (by kernel_rfl) (add_str (P := Try.prog) (h := h_105) (t := 9) (lit := false) e114)) ?_
                              refine WL.val (d := (some 158)) (v := .int .i64 t0) (h' := h_105) (by kernel_rfl) (by kernel_rfl) (by kernel_rfl) ?_
                              replace hF := callN_some hF; obtain ⟨r159, h_115, e116, hF⟩ := hF
                              refine WL.call (hc.ok w0) (d := (some 159)) (by kernel_rfl) (by kernel_rfl) (by kernel_rfl) e116 ?_
                              refine WL.val (d := (some 154)) (v := r159) (h' := h_115) (by kernel_rfl) (by kernel_rfl) (by kernel_rfl) ?_
                              replace hF := obind_some hF; obtain ⟨v160, e117, hF⟩ := hF
                              replace hF := obind_some hF; obtain ⟨t160, c118, hF⟩ := hF
                              have c118 := avStr_some c118
                              subst c118
                              refine WL.val (d := (some 160)) (v := strA t160) (h' := h_115) (by kernel_rfl) (by kernel_rfl) (Eq.trans (by kernel_rfl) (extract_tup (h := h_115) e117)) ?_
                              replace hF := obind_some hF; obtain ⟨v161, e119, hF⟩ := hF
                              replace hF := obind_some hF; obtain ⟨t161, c120, hF⟩ := hF
                              have c120 := avInt_some c120
                              subst c120
                              refine WL.val (d := (some 161)) (v := .int .i64 t161) (h' := h_115) (by kernel_rfl) (by kernel_rfl) (Eq.trans (by kernel_rfl) (extract_tup (h := h_115) e119)) ?_
                              replace hF := obind_some hF; obtain ⟨v162, e121, hF⟩ := hF
                              replace hF := obind_some hF; obtain ⟨t162, c122, hF⟩ := hF
                              have c122 := avInt_some c122
                              subst c122
                              refine WL.val (d := (some 162)) (v := .int .i64 t162) (h' := h_115) (by kernel_rfl) (by kernel_rfl) (Eq.trans (by kernel_rfl) (extract_tup (h := h_115) e121)) ?_
                              refine WL.val (d := (some 28)) (v := strA t160) (h' := h_115) (by kernel_rfl) (by kernel_rfl) (by kernel_rfl) ?_
                              refine WL.val (d := (some 29)) (v := .int .i64 t161) (h' := h_115) (by kernel_rfl) (by kernel_rfl) (by kernel_rfl) ?_
                              refine WL.val (d := (some 30)) (v := .int .i64 t162) (h' := h_115) (by kernel_rfl) (by kernel_rfl) (by kernel_rfl) ?_
                              refine WL.nil (by kernel_rfl) ?_
                              refine Go.weaken (l' := [(0, .int .i64 t0), (13, strA t72), (17, strA t82), (22, strA t145), (23, .int .i64 t146), (24, .int .i64 t147), (25, strA t151), (26, .int .i64 t152), (27, .int .i64 t153), (28, strA t160), (29, .int .i64 t161)]) (Fr.sub_cons (by kernel_rfl) (Fr.sub_cons (by kernel_rfl) (Fr.sub_cons (by kernel_rfl) (Fr.sub_cons (by kernel_rfl) (Fr.sub_cons (by kernel_rfl) (Fr.sub_cons (by kernel_rfl) (Fr.sub_cons (by kernel_rfl) (Fr.sub_cons (by kernel_rfl) (Fr.sub_cons (by kernel_rfl) (Fr.sub_cons (by kernel_rfl) (Fr.sub_cons (by kernel_rfl) (Fr.sub_nil _)))))))))))) ?_
                              refine n113 ?_
                              refine W.seqK (by kernel_rfl) (fun K123 n123 e123 r123 p123 => ?_)
                              refine W.region (by kernel_rfl) ?_
                              refine WL.val (d := (some 164)) (v := strA t72) (h' := h_115) (by kernel_rfl) (by kernel_rfl) (by kernel_rfl) ?_
                              refine WL.val (d := (some 165)) (v := strA t82) (h' := h_115) (by kernel_rfl) (by kernel_rfl) (by kernel_rfl) ?_
                              replace hF := obind_some hF; obtain ⟨t166, e124, hF⟩ := hF
                              refine WL.val (d := (some 166)) (v := strA t166) (h' := h_115) (by kernel_rfl) (by kernel_rfl) (Eq.trans (by kernel_rfl) (add_str (P := Try.prog) (h := h_115) (t := 9) (lit := false) e124)) ?_
                              refine WL.val (d := (some 167)) (v := .int .i64 t0) (h' := h_115) (by kernel_rfl) (by kernel_rfl) (by kernel_rfl) ?_
                              replace hF := callN_some hF; obtain ⟨r168, h_125, e126, hF⟩ := hF
                              refine WL.call (hc.ok w0) (d := (some 168)) (by kernel_rfl) (by kernel_rfl) (by kernel_rfl) e126 ?_
                              refine WL.val (d := (some 163)) (v := r168) (h' := h_125) (by kernel_rfl) (by kernel_rfl) (by kernel_rfl) ?_
                              replace hF := obind_some hF; obtain ⟨v169, e127, hF⟩ := hF
                              replace hF := obind_some hF; obtain ⟨t169, c128, hF⟩ := hF
                              have c128 := avStr_some c128
                              subst c128
                              refine WL.val (d := (some 169)) (v := strA t169) (h' := h_125) (by kernel_rfl) (by kernel_rfl) (Eq.trans (by kernel_rfl) (extract_tup (h := h_125) e127)) ?_
                              replace hF := obind_some hF; obtain ⟨v170, e129, hF⟩ := hF
                              replace hF := obind_some hF; obtain ⟨t170, c130, hF⟩ := hF
                              have c130 := avInt_some c130
                              subst c130
                              refine WL.val (d := (some 170)) (v := .int .i64 t170) (h' := h_125) (by kernel_rfl) (by kernel_rfl) (Eq.trans (by kernel_rfl) (extract_tup (h := h_125) e129)) ?_
                              replace hF := obind_some hF; obtain ⟨v171, e131, hF⟩ := hF
                              replace hF := obind_some hF; obtain ⟨t171, c132, hF⟩ := hF
                              have c132 := avInt_some c132
                              subst c132
                              refine WL.val (d := (some 171)) (v := .int .i64 t171) (h' := h_125) (by kernel_rfl) (by kernel_rfl) (Eq.trans (by kernel_rfl) (extract_tup (h := h_125) e131)) ?_
                              refine WL.val (d := (some 31)) (v := strA t169) (h' := h_125) (by kernel_rfl) (by kernel_rfl) (by kernel_rfl) ?_
                              refine WL.val (d := (some 32)) (v := .int .i64 t170) (h' := h_125) (by kernel_rfl) (by kernel_rfl) (by kernel_rfl) ?_
                              refine WL.val (d := (some 33)) (v := .int .i64 t171) (h' := h_125) (by kernel_rfl) (by kernel_rfl) (by kernel_rfl) ?_
                              refine WL.nil (by kernel_rfl) ?_
                              refine Go.weaken (l' := [(22, strA t145), (23, .int .i64 t146), (24, .int .i64 t147), (25, strA t151), (26, .int .i64 t152), (27, .int .i64 t153), (28, strA t160), (29, .int .i64 t161), (31, strA t169), (32, .int .i64 t170)]) (Fr.sub_cons (by kernel_rfl) (Fr.sub_cons (by kernel_rfl) (Fr.sub_cons (by kernel_rfl) (Fr.sub_cons (by kernel_rfl) (Fr.sub_cons (by kernel_rfl) (Fr.sub_cons (by kernel_rfl) (Fr.sub_cons (by kernel_rfl) (Fr.sub_cons (by kernel_rfl) (Fr.sub_cons (by kernel_rfl) (Fr.sub_cons (by kernel_rfl) (Fr.sub_nil _))))))))))) ?_
                              refine n123 ?_
                              refine W.seqK (by kernel_rfl) (fun K133 n133 e133 r133 p133 => ?_)
                              refine W.region (by kernel_rfl) ?_
                              refine WL.val (d := (some 172)) (v := .int .i64 t147) (h' := h_125) (by kernel_rfl) (by kernel_rfl) (by kernel_rfl) ?_
                              replace hF := lett_some hF; obtain ⟨t173, e134, hF⟩ := hF
                              refine WL.val (d := (some 173)) (v := .bool t173) (h' := h_125) (by kernel_rfl) (by kernel_rfl) (val_of AV.bool e134 (by kernel_rfl)) ?_
                              refine WL.val (d := (some 174)) (v := .bool t173) (h' := h_125) (by kernel_rfl) (by kernel_rfl) (by kernel_rfl) ?_
                              replace hF := lett_some hF; obtain ⟨j177, e136, hF⟩ := hF
                              have J137 : ∀ (t177 : Bool) (h_135 : AHeap), j177 t177 h_135 = some (rR, hR) → WL Try.prog w0 m0 (Func.ntmps Try.f6) (Code.ops (Code.p1 (Code.p2 (Code.p2 (Code.p2 (Code.p2 (Code.p2 (Code.p2 (Code.p2 (Code.p2 (Code.p2 (Code.p2 (Code.p2 (Code.p2 (Code.p2 (Code.p2 (Code.p2 (Code.p2 (Code.p2 (Code.p2 (codeOf Try.f6))))))))))))))))))))) 6 K133 [(22, strA t145), (23, .int .i64 t146), (25, strA t151), (26, .int .i64 t152), (28, strA t160), (29, .int .i64 t161), (31, strA t169), (32, .int .i64 t170), (177, .bool t177)] [] h_135 := by
                                intro t177 h_135 hF
                                rw [e136] at hF
                                refine WL.val (d := (some 178)) (v := .bool t177) (h' := h_135) (by kernel_rfl) (by kernel_rfl) (by kernel_rfl) ?_
                                replace hF := lett_some hF; obtain ⟨j182, e139, hF⟩ := hF
                                have J140 : ∀ (t182 : Bool) (h_138 : AHeap), j182 t182 h_138 = some (rR, hR) → WL Try.prog w0 m0 (Func.ntmps Try.f6) (Code.ops (Code.p1 (Code.p2 (Code.p2 (Code.p2 (Code.p2 (Code.p2 (Code.p2 (Code.p2 (Code.p2 (Code.p2 (Code.p2 (Code.p2 (Code.p2 (Code.p2 (Code.p2 (Code.p2 (Code.p2 (Code.p2 (Code.p2 (codeOf Try.f6))))))))))))))))))))) 11 K133 [(23, .int .i64 t146), (25, strA t151), (26, .int .i64 t152), (29, .int .i64 t161), (31, strA t169), (32, .int .i64 t170), (182, .bool t182)] [] h_138 := by
                                  intro t182 h_138 hF
                                  rw [e139] at hF
                                  refine WL.val (d := (some 183)) (v := .bool t182) (h' := h_138) (by kernel_rfl) (by kernel_rfl) (by kernel_rfl) ?_
                                  replace hF := lett_some hF; obtain ⟨j187, e142, hF⟩ := hF
                                  have J143 : ∀ (t187 : Bool) (h_141 : AHeap), j187 t187 h_141 = some (rR, hR) → WL Try.prog w0 m0 (Func.ntmps Try.f6) (Code.ops (Code.p1 (Code.p2 (Code.p2 (Code.p2 (Code.p2 (Code.p2 (Code.p2 (Code.p2 (Code.p2 (Code.p2 (Code.p2 (Code.p2 (Code.p2 (Code.p2 (Code.p2 (Code.p2 (Code.p2 (Code.p2 (Code.p2 (codeOf Try.f6))))))))))))))))))))) 16 K133 [(25, strA t151), (26, .int .i64 t152), (31, strA t169), (32, .int .i64 t170), (187, .bool t187)] [] h_141 := by
                                    intro t187 h_141 hF
                                    rw [e142] at hF
                                    refine WL.val (d := (some 188)) (v := .bool t187) (h' := h_141) (by kernel_rfl) (by kernel_rfl) (by kernel_rfl) ?_
                                    replace hF := lett_some hF; obtain ⟨j192, e145, hF⟩ := hF
                                    have J146 : ∀ (t192 : Bool) (h_144 : AHeap), j192 t192 h_144 = some (rR, hR) → WL Try.prog w0 m0 (Func.ntmps Try.f6) (Code.ops (Code.p1 (Code.p2 (Code.p2 (Code.p2 (Code.p2 (Code.p2 (Code.p2 (Code.p2 (Code.p2 (Code.p2 (Code.p2 (Code.p2 (Code.p2 (Code.p2 (Code.p2 (Code.p2 (Code.p2 (Code.p2 (Code.p2 (codeOf Try.f6))))))))))))))))))))) 21 K133 [(26, .int .i64 t152), (32, .int .i64 t170), (192, .bool t192)] [] h_144 := by
                                      intro t192 h_144 hF
                                      rw [e145] at hF
                                      refine WL.val (d := (some 193)) (v := .bool t192) (h' := h_144) (by kernel_rfl) (by kernel_rfl) (by kernel_rfl) ?_
                                      replace hF := lett_some hF; obtain ⟨j197, e148, hF⟩ := hF
                                      have J149 : ∀ (t197 : Bool) (h_147 : AHeap), j197 t197 h_147 = some (rR, hR) → WL Try.prog w0 m0 (Func.ntmps Try.f6) (Code.ops (Code.p1 (Code.p2 (Code.p2 (Code.p2 (Code.p2 (Code.p2 (Code.p2 (Code.p2 (Code.p2 (Code.p2 (Code.p2 (Code.p2 (Code.p2 (Code.p2 (Code.p2 (Code.p2 (Code.p2 (Code.p2 (Code.p2 (codeOf Try.f6))))))))))))))))))))) 26 K133 [(197, .bool t197)] [] h_147 := by
                                        intro t197 h_147 hF
                                        rw [e148] at hF
                                        refine WL.val (d := (some 8)) (v := .bool t197) (h' := h_147) (by kernel_rfl) (by kernel_rfl) (by kernel_rfl) ?_
                                        refine WL.nil (by kernel_rfl) ?_
                                        refine Go.weaken (l' := [(8, .bool t197)]) (Fr.sub_cons (by kernel_rfl) (Fr.sub_nil _)) ?_
                                        refine n133 ?_
                                        refine W.ret (by kernel_rfl) ?_
                                        obtain ⟨hF, hF2⟩ := ret_inj hF; subst hF; subst hF2
                                        exact leave_of (rs := [.tmp 8]) (vs := [.bool t197]) (by kernel_rfl) (res_tmp (by kernel_rfl) res_nil) (by kernel_rfl)
                                      cases t192 with
                                      | true =>
                                        replace hF := ifB_t hF
                                        refine WL.val (d := (some 194)) (v := .int .i64 t152) (h' := h_144) (by kernel_rfl) (by kernel_rfl) (by kernel_rfl) ?_
                                        refine WL.val (d := (some 195)) (v := .int .i64 t170) (h' := h_144) (by kernel_rfl) (by kernel_rfl) (by kernel_rfl) ?_
                                        replace hF := lett_some hF; obtain ⟨t196, e150, hF⟩ := hF
                                        refine WL.val (d := (some 196)) (v := .bool t196) (h' := h_144) (by kernel_rfl) (by kernel_rfl) (val_of AV.bool e150 (by kernel_rfl)) ?_
                                        refine WL.val (d := (some 197)) (v := .bool t196) (h' := h_144) (by kernel_rfl) (by kernel_rfl) (by kernel_rfl) ?_
                                        exact WL.weaken (Fr.sub_cons (by kernel_rfl) (Fr.sub_nil _)) (J149 _ _ hF)
                                      | false =>
                                        replace hF := ifB_f hF
                                        refine WL.not (d := (some 194)) (by kernel_rfl) (by kernel_rfl) ?_
                                        refine WL.not (d := (some 195)) (by kernel_rfl) (by kernel_rfl) ?_
                                        refine WL.not (d := (some 196)) (by kernel_rfl) (by kernel_rfl) ?_
                                        refine WL.val (d := (some 197)) (v := .bool false) (h' := h_144) (by kernel_rfl) (by kernel_rfl) (by kernel_rfl) ?_
                                        exact WL.weaken (Fr.sub_cons (by kernel_rfl) (Fr.sub_nil _)) (J149 _ _ hF)
                                    cases t187 with
                                    | true =>
                                      replace hF := ifB_t hF
                                      refine WL.val (d := (some 189)) (v := strA t151) (h' := h_141) (by kernel_rfl) (by kernel_rfl) (by kernel_rfl) ?_
                                      refine WL.val (d := (some 190)) (v := strA t169) (h' := h_141) (by kernel_rfl) (by kernel_rfl) (by kernel_rfl) ?_
                                      replace hF := lett_some hF; obtain ⟨t191, e151, hF⟩ := hF
                                      refine WL.val (d := (some 191)) (v := .bool t191) (h' := h_141) (by kernel_rfl) (by kernel_rfl) (val_of AV.bool e151 (by kernel_rfl)) ?_
                                      refine WL.val (d := (some 192)) (v := .bool t191) (h' := h_141) (by kernel_rfl) (by kernel_rfl) (by kernel_rfl) ?_
                                      exact WL.weaken (Fr.sub_cons (by kernel_rfl) (Fr.sub_cons (by kernel_rfl) (Fr.sub_cons (by kernel_rfl) (Fr.sub_nil _)))) (J146 _ _ hF)
                                    | false =>
                                      replace hF := ifB_f hF
                                      refine WL.not (d := (some 189)) (by kernel_rfl) (by kernel_rfl) ?_
                                      refine WL.not (d := (some 190)) (by kernel_rfl) (by kernel_rfl) ?_
                                      refine WL.not (d := (some 191)) (by kernel_rfl) (by kernel_rfl) ?_
                                      refine WL.val (d := (some 192)) (v := .bool false) (h' := h_141) (by kernel_rfl) (by kernel_rfl) (by kernel_rfl) ?_
                                      exact WL.weaken (Fr.sub_cons (by kernel_rfl) (Fr.sub_cons (by kernel_rfl) (Fr.sub_cons (by kernel_rfl) (Fr.sub_nil _)))) (J146 _ _ hF)
                                  cases t182 with
                                  | true =>
                                    replace hF := ifB_t hF
                                    refine WL.val (d := (some 184)) (v := .int .i64 t146) (h' := h_138) (by kernel_rfl) (by kernel_rfl) (by kernel_rfl) ?_
                                    refine WL.val (d := (some 185)) (v := .int .i64 t161) (h' := h_138) (by kernel_rfl) (by kernel_rfl) (by kernel_rfl) ?_
                                    replace hF := lett_some hF; obtain ⟨t186, e152, hF⟩ := hF
                                    refine WL.val (d := (some 186)) (v := .bool t186) (h' := h_138) (by kernel_rfl) (by kernel_rfl) (val_of AV.bool e152 (by kernel_rfl)) ?_
                                    refine WL.val (d := (some 187)) (v := .bool t186) (h' := h_138) (by kernel_rfl) (by kernel_rfl) (by kernel_rfl) ?_
                                    exact WL.weaken (Fr.sub_cons (by kernel_rfl) (Fr.sub_cons (by kernel_rfl) (Fr.sub_cons (by kernel_rfl) (Fr.sub_cons (by kernel_rfl) (Fr.sub_cons (by kernel_rfl) (Fr.sub_nil _)))))) (J143 _ _ hF)
                                  | false =>
                                    replace hF := ifB_f hF
                                    refine WL.not (d := (some 184)) (by kernel_rfl) (by kernel_rfl) ?_
                                    refine WL.not (d := (some 185)) (by kernel_rfl) (by kernel_rfl) ?_
                                    refine WL.not (d := (some 186)) (by kernel_rfl) (by kernel_rfl) ?_
                                    refine WL.val (d := (some 187)) (v := .bool false) (h' := h_138) (by kernel_rfl) (by kernel_rfl) (by kernel_rfl) ?_
                                    exact WL.weaken (Fr.sub_cons (by kernel_rfl) (Fr.sub_cons (by kernel_rfl) (Fr.sub_cons (by kernel_rfl) (Fr.sub_cons (by kernel_rfl) (Fr.sub_cons (by kernel_rfl) (Fr.sub_nil _)))))) (J143 _ _ hF)
                                cases t177 with
                                | true =>
                                  replace hF := ifB_t hF
                                  refine WL.val (d := (some 179)) (v := strA t145) (h' := h_135) (by kernel_rfl) (by kernel_rfl) (by kernel_rfl) ?_
                                  refine WL.val (d := (some 180)) (v := strA t160) (h' := h_135) (by kernel_rfl) (by kernel_rfl) (by kernel_rfl) ?_
                                  replace hF := lett_some hF; obtain ⟨t181, e153, hF⟩ := hF
                                  refine WL.val (d := (some 181)) (v := .bool t181) (h' := h_135) (by kernel_rfl) (by kernel_rfl) (val_of AV.bool e153 (by kernel_rfl)) ?_
                                  refine WL.val (d := (some 182)) (v := .bool t181) (h' := h_135) (by kernel_rfl) (by kernel_rfl) (by kernel_rfl) ?_
                                  exact WL.weaken (Fr.sub_cons (by kernel_rfl) (Fr.sub_cons (by kernel_rfl) (Fr.sub_cons (by kernel_rfl) (Fr.sub_cons (by kernel_rfl) (Fr.sub_cons (by kernel_rfl) (Fr.sub_cons (by kernel_rfl) (Fr.sub_cons (by kernel_rfl) (Fr.sub_nil _)))))))) (J140 _ _ hF)
                                | false =>
                                  replace hF := ifB_f hF
                                  refine WL.not (d := (some 179)) (by kernel_rfl) (by kernel_rfl) ?_
                                  refine WL.not (d := (some 180)) (by kernel_rfl) (by kernel_rfl) ?_
                                  refine WL.not (d := (some 181)) (by kernel_rfl) (by kernel_rfl) ?_
                                  refine WL.val (d := (some 182)) (v := .bool false) (h' := h_135) (by kernel_rfl) (by kernel_rfl) (by kernel_rfl) ?_
                                  exact WL.weaken (Fr.sub_cons (by kernel_rfl) (Fr.sub_cons (by kernel_rfl) (Fr.sub_cons (by kernel_rfl) (Fr.sub_cons (by kernel_rfl) (Fr.sub_cons (by kernel_rfl) (Fr.sub_cons (by kernel_rfl) (Fr.sub_cons (by kernel_rfl) (Fr.sub_nil _)))))))) (J140 _ _ hF)
                              cases t173 with
                              | true =>
                                replace hF := ifB_t hF
                                refine WL.val (d := (some 175)) (v := .int .i64 t153) (h' := h_125) (by kernel_rfl) (by kernel_rfl) (by kernel_rfl) ?_
                                replace hF := lett_some hF; obtain ⟨t176, e154, hF⟩ := hF
                                refine WL.val (d := (some 176)) (v := .bool t176) (h' := h_125) (by kernel_rfl) (by kernel_rfl) (val_of AV.bool e154 (by kernel_rfl)) ?_
                                refine WL.val (d := (some 177)) (v := .bool t176) (h' := h_125) (by kernel_rfl) (by kernel_rfl) (by kernel_rfl) ?_
                                exact WL.weaken (Fr.sub_cons (by kernel_rfl) (Fr.sub_cons (by kernel_rfl) (Fr.sub_cons (by kernel_rfl) (Fr.sub_cons (by kernel_rfl) (Fr.sub_cons (by kernel_rfl) (Fr.sub_cons (by kernel_rfl) (Fr.sub_cons (by kernel_rfl) (Fr.sub_cons (by kernel_rfl) (Fr.sub_cons (by kernel_rfl) (Fr.sub_nil _)))))))))) (J137 _ _ hF)
                              | false =>
                                replace hF := ifB_f hF
                                refine WL.not (d := (some 175)) (by kernel_rfl) (by kernel_rfl) ?_
                                refine WL.not (d := (some 176)) (by kernel_rfl) (by kernel_rfl) ?_
                                refine WL.val (d := (some 177)) (v := .bool false) (h' := h_125) (by kernel_rfl) (by kernel_rfl) (by kernel_rfl) ?_
                                exact WL.weaken (Fr.sub_cons (by kernel_rfl) (Fr.sub_cons (by kernel_rfl) (Fr.sub_cons (by kernel_rfl) (Fr.sub_cons (by kernel_rfl) (Fr.sub_cons (by kernel_rfl) (Fr.sub_cons (by kernel_rfl) (Fr.sub_cons (by kernel_rfl) (Fr.sub_cons (by kernel_rfl) (Fr.sub_cons (by kernel_rfl) (Fr.sub_nil _)))))))))) (J137 _ _ hF)
                            refine W.blockK (by kernel_rfl) (fun K92 n92 s92 o92 r92 p92 => ?_)
                            refine W.loopK (by kernel_rfl) (fun I155 K155 b155 n155 e155 r155 p155 => ?_)
                            have L155 : ∀ (m : Nat) (t21 : Int) (h_156 : AHeap), law21_RingCopies_L0 call t2 t3 r86 r102 k93 m t21 h_156 = some (rR, hR) → Go w0 m0 (Func.ntmps Try.f6) I155 [(0, .int .i64 t0), (2, t2), (3, t3), (13, strA t72), (15, strA t77), (17, strA t82), (19, r86), (20, r102), (21, .int .i64 t21)] [] h_156 := by
                              intro m
                              induction m with
                              | zero => intro t21 h_156 hF; cases hF
                              | succ m ih155 =>
                                intro t21 h_156 hF
                                rw [law21_RingCopies_L0_s] at hF; unfold law21_RingCopies_L0b at hF
                                refine b155 ?_
                                refine W.seqK (by kernel_rfl) (fun K157 n157 e157 r157 p157 => ?_)
                                refine W.seqK (by kernel_rfl) (fun K158 n158 e158 r158 p158 => ?_)
                                refine W.region (by kernel_rfl) ?_
                                refine WL.val (d := (some 110)) (v := .int .i64 t21) (h' := h_156) (by kernel_rfl) (by kernel_rfl) (by kernel_rfl) ?_
                                refine WL.val (d := (some 111)) (v := t2) (h' := h_156) (by kernel_rfl) (by kernel_rfl) (by kernel_rfl) ?_
                                replace hF := obind_some hF; obtain ⟨t112, e159, hF⟩ := hF
                                refine WL.val (d := (some 112)) (v := .int .i64 t112) (h' := h_156) (by kernel_rfl) (by kernel_rfl) (Eq.trans (by kernel_rfl) (len_row (P := Try.prog) (h := h_156) (t := 22) (e' := 9) (by kernel_rfl) e159)) ?_
                                replace hF := lett_some hF; obtain ⟨t113, e160, hF⟩ := hF
                                refine WL.val (d := (some 113)) (v := .bool t113) (h' := h_156) (by kernel_rfl) (by kernel_rfl) (val_of AV.bool e160 (by kernel_rfl)) ?_
                                refine WL.val (d := (some 114)) (v := .bool t113) (h' := h_156) (by kernel_rfl) (by kernel_rfl) (by kernel_rfl) ?_
                                replace hF := lett_some hF; obtain ⟨j119, e162, hF⟩ := hF
                                have J163 : ∀ (t119 : Bool) (h_161 : AHeap), j119 t119 h_161 = some (rR, hR) → WL Try.prog w0 m0 (Func.ntmps Try.f6) (Code.ops (Code.p1 (Code.p1 (Code.p1 (Code.p1 (Code.p2 (Code.p1 (Code.p2 (Code.p2 (Code.p2 (Code.p2 (Code.p2 (Code.p2 (Code.p2 (Code.p2 (Code.p2 (Code.p2 (Code.p2 (Code.p2 (Code.p2 (codeOf Try.f6))))))))))))))))))))) 10 K158 [(0, .int .i64 t0), (2, t2), (3, t3), (13, strA t72), (15, strA t77), (17, strA t82), (19, r86), (20, r102), (21, .int .i64 t21), (119, .bool t119)] [] h_161 := by
                                  intro t119 h_161 hF
                                  rw [e162] at hF
                                  refine WL.nil (by kernel_rfl) ?_
                                  refine Go.weaken (l' := [(0, .int .i64 t0), (2, t2), (3, t3), (13, strA t72), (15, strA t77), (17, strA t82), (19, r86), (20, r102), (21, .int .i64 t21), (119, .bool t119)]) (Fr.sub_cons (by kernel_rfl) (Fr.sub_cons (by kernel_rfl) (Fr.sub_cons (by kernel_rfl) (Fr.sub_cons (by kernel_rfl) (Fr.sub_cons (by kernel_rfl) (Fr.sub_cons (by kernel_rfl) (Fr.sub_cons (by kernel_rfl) (Fr.sub_cons (by kernel_rfl) (Fr.sub_cons (by kernel_rfl) (Fr.sub_cons (by kernel_rfl) (Fr.sub_nil _))))))))))) ?_
                                  refine n158 ?_
                                  cases t119 with
                                  | true =>
                                    replace hF := ifB_t hF
                                    refine W.cond_true (by kernel_rfl) (by kernel_rfl) ?_
                                    refine W.skip (by kernel_rfl) ?_
                                    refine n157 ?_
                                    refine W.seqK (by kernel_rfl) (fun K164 n164 e164 r164 p164 => ?_)
                                    refine W.blockK (by kernel_rfl) (fun K165 n165 s165 o165 r165 p165 => ?_)
                                    refine W.seqK (by kernel_rfl) (fun K166 n166 e166 r166 p166 => ?_)
                                    refine W.seqK (by kernel_rfl) (fun K167 n167 e167 r167 p167 => ?_)
                                    refine W.region (by kernel_rfl) ?_
                                    refine WL.val (d := (some 122)) (v := .int .i64 t21) (h' := h_161) (by kernel_rfl) (by kernel_rfl) (by kernel_rfl) ?_
                                    refine WL.val (d := (some 123)) (v := t2) (h' := h_161) (by kernel_rfl) (by kernel_rfl) (by kernel_rfl) ?_
                                    replace hF := obind_some hF; obtain ⟨t124, e168, hF⟩ := hF
                                    refine WL.val (d := (some 124)) (v := .int .i64 t124) (h' := h_161) (by kernel_rfl) (by kernel_rfl) (Eq.trans (by kernel_rfl) (len_row (P := Try.prog) (h := h_161) (t := 22) (e' := 9) (by kernel_rfl) e168)) ?_
                                    replace hF := lett_some hF; obtain ⟨t125, e169, hF⟩ := hF
                                    refine WL.val (d := (some 125)) (v := .bool t125) (h' := h_161) (by kernel_rfl) (by kernel_rfl) (val_of AV.bool e169 (by kernel_rfl)) ?_
                                    refine WL.nil (by kernel_rfl) ?_
                                    refine Go.weaken (l' := [(0, .int .i64 t0), (2, t2), (3, t3), (13, strA t72), (15, strA t77), (17, strA t82), (19, r86), (20, r102), (21, .int .i64 t21), (125, .bool t125)]) (Fr.sub_cons (by kernel_rfl) (Fr.sub_cons (by kernel_rfl) (Fr.sub_cons (by kernel_rfl) (Fr.sub_cons (by kernel_rfl) (Fr.sub_cons (by kernel_rfl) (Fr.sub_cons (by kernel_rfl) (Fr.sub_cons (by kernel_rfl) (Fr.sub_cons (by kernel_rfl) (Fr.sub_cons (by kernel_rfl) (Fr.sub_cons (by kernel_rfl) (Fr.sub_nil _))))))))))) ?_
                                    refine n167 ?_
                                    replace hF := lett_some hF; obtain ⟨k170, e170, hF⟩ := hF
                                    have J170 : ∀  (h_171 : AHeap), k170 h_171 = some (rR, hR) → Go w0 m0 (Func.ntmps Try.f6) (K166 .normal) [(0, .int .i64 t0), (2, t2), (3, t3), (13, strA t72), (15, strA t77), (17, strA t82), (19, r86), (20, r102), (21, .int .i64 t21)] [] h_171 := by
                                      intro  h_171 hF
                                      rw [e170] at hF
                                      refine n166 ?_
                                      refine W.seqK (by kernel_rfl) (fun K172 n172 e172 r172 p172 => ?_)
                                      refine W.region (by kernel_rfl) ?_
                                      refine WL.val (d := (some 132)) (v := .int .i64 t21) (h' := h_171) (by kernel_rfl) (by kernel_rfl) (by kernel_rfl) ?_
                                      refine WL.val (d := (some 133)) (v := t3) (h' := h_171) (by kernel_rfl) (by kernel_rfl) (by kernel_rfl) ?_
                                      replace hF := obind_some hF; obtain ⟨t134, e173, hF⟩ := hF
                                      refine WL.val (d := (some 134)) (v := .int .i64 t134) (h' := h_171) (by kernel_rfl) (by kernel_rfl) (Eq.trans (by kernel_rfl) (len_row (P := Try.prog) (h := h_171) (t := 22) (e' := 9) (by kernel_rfl) e173)) ?_
                                      replace hF := lett_some hF; obtain ⟨t135, e174, hF⟩ := hF
                                      refine WL.val (d := (some 135)) (v := .bool t135) (h' := h_171) (by kernel_rfl) (by kernel_rfl) (val_of AV.bool e174 (by kernel_rfl)) ?_
                                      refine WL.nil (by kernel_rfl) ?_
                                      refine Go.weaken (l' := [(0, .int .i64 t0), (2, t2), (3, t3), (13, strA t72), (15, strA t77), (17, strA t82), (19, r86), (20, r102), (21, .int .i64 t21), (135, .bool t135)]) (Fr.sub_cons (by kernel_rfl) (Fr.sub_cons (by kernel_rfl) (Fr.sub_cons (by kernel_rfl) (Fr.sub_cons (by kernel_rfl) (Fr.sub_cons (by kernel_rfl) (Fr.sub_cons (by kernel_rfl) (Fr.sub_cons (by kernel_rfl) (Fr.sub_cons (by kernel_rfl) (Fr.sub_cons (by kernel_rfl) (Fr.sub_cons (by kernel_rfl) (Fr.sub_nil _))))))))))) ?_
                                      refine n172 ?_
                                      replace hF := lett_some hF; obtain ⟨k175, e175, hF⟩ := hF
                                      have J175 : ∀  (h_176 : AHeap), k175 h_176 = some (rR, hR) → Go w0 m0 (Func.ntmps Try.f6) (K165 .normal) [(0, .int .i64 t0), (2, t2), (3, t3), (13, strA t72), (15, strA t77), (17, strA t82), (19, r86), (20, r102), (21, .int .i64 t21)] [] h_176 := by
                                        intro  h_176 hF
                                        rw [e175] at hF
                                        refine n165 ?_
                                        refine n164 ?_
                                        refine W.region (by kernel_rfl) ?_
                                        refine WL.val (d := (some 120)) (v := .int .i64 t21) (h' := h_176) (by kernel_rfl) (by kernel_rfl) (by kernel_rfl) ?_
                                        replace hF := lett_some hF; obtain ⟨t121, e177, hF⟩ := hF
                                        refine WL.val (d := (some 121)) (v := .int .i64 t121) (h' := h_176) (by kernel_rfl) (by kernel_rfl) (val_of (AV.int .i64) e177 (by kernel_rfl)) ?_
                                        refine WL.val (d := (some 21)) (v := .int .i64 t121) (h' := h_176) (by kernel_rfl) (by kernel_rfl) (by kernel_rfl) ?_
                                        refine WL.nil (by kernel_rfl) ?_
                                        refine Go.weaken (l' := [(0, .int .i64 t0), (2, t2), (3, t3), (13, strA t72), (15, strA t77), (17, strA t82), (19, r86), (20, r102), (21, .int .i64 t121)]) (Fr.sub_cons (by kernel_rfl) (Fr.sub_cons (by kernel_rfl) (Fr.sub_cons (by kernel_rfl) (Fr.sub_cons (by kernel_rfl) (Fr.sub_cons (by kernel_rfl) (Fr.sub_cons (by kernel_rfl) (Fr.sub_cons (by kernel_rfl) (Fr.sub_cons (by kernel_rfl) (Fr.sub_cons (by kernel_rfl) (Fr.sub_nil _)))))))))) ?_
                                        refine n155 ?_
                                        exact Go.weaken (Fr.sub_cons (by kernel_rfl) (Fr.sub_cons (by kernel_rfl) (Fr.sub_cons (by kernel_rfl) (Fr.sub_cons (by kernel_rfl) (Fr.sub_cons (by kernel_rfl) (Fr.sub_cons (by kernel_rfl) (Fr.sub_cons (by kernel_rfl) (Fr.sub_cons (by kernel_rfl) (Fr.sub_cons (by kernel_rfl) (Fr.sub_nil _)))))))))) (ih155 _ _ hF)
                                      cases t135 with
                                      | true =>
                                        replace hF := ifB_t hF
                                        refine W.cond_true (by kernel_rfl) (by kernel_rfl) ?_
                                        refine W.region (by kernel_rfl) ?_
                                        refine WL.val (d := (some 136)) (v := r102) (h' := h_171) (by kernel_rfl) (by kernel_rfl) (by kernel_rfl) ?_
                                        refine WL.val (d := (some 137)) (v := t3) (h' := h_171) (by kernel_rfl) (by kernel_rfl) (by kernel_rfl) ?_
                                        refine WL.val (d := (some 138)) (v := .int .i64 t21) (h' := h_171) (by kernel_rfl) (by kernel_rfl) (by kernel_rfl) ?_
                                        replace hF := obind_some hF; obtain ⟨t139, e178, hF⟩ := hF
                                        refine WL.val (d := (some 139)) (v := t139) (h' := h_171) (by kernel_rfl) (by kernel_rfl) (Eq.trans (by kernel_rfl) (index_row (P := Try.prog) (h := h_171) (t := 22) (e' := 9) (k := .i64) (by kernel_rfl) (by kernel_rfl) (by kernel_rfl) e178)) ?_
                                        replace hF := obind_some hF; obtain ⟨v140, e179, hF⟩ := hF
                                        replace hF := obind_some hF; obtain ⟨t140, c180, hF⟩ := hF
                                        have c180 := avStr_some c180
                                        subst c180
                                        refine WL.val (d := (some 140)) (v := strA t140) (h' := h_171) (by kernel_rfl) (by kernel_rfl) (Eq.trans (by kernel_rfl) (load_cell (P := Try.prog) (h := h_171) (t := 9) (by kernel_rfl) e179)) ?_
                                        replace hF := callN_some hF; obtain ⟨r141, h_181, e182, hF⟩ := hF
                                        refine WL.call (hc.ok w0) (d := (some 141)) (by kernel_rfl) (by kernel_rfl) (by kernel_rfl) e182 ?_
                                        refine WL.nil (by kernel_rfl) ?_
                                        refine Go.weaken (l' := [(0, .int .i64 t0), (2, t2), (3, t3), (13, strA t72), (15, strA t77), (17, strA t82), (19, r86), (20, r102), (21, .int .i64 t21)]) (Fr.sub_cons (by kernel_rfl) (Fr.sub_cons (by kernel_rfl) (Fr.sub_cons (by kernel_rfl) (Fr.sub_cons (by kernel_rfl) (Fr.sub_cons (by kernel_rfl) (Fr.sub_cons (by kernel_rfl) (Fr.sub_cons (by kernel_rfl) (Fr.sub_cons (by kernel_rfl) (Fr.sub_cons (by kernel_rfl) (Fr.sub_nil _)))))))))) ?_
                                        exact Go.weaken (Fr.sub_cons (by kernel_rfl) (Fr.sub_cons (by kernel_rfl) (Fr.sub_cons (by kernel_rfl) (Fr.sub_cons (by kernel_rfl) (Fr.sub_cons (by kernel_rfl) (Fr.sub_cons (by kernel_rfl) (Fr.sub_cons (by kernel_rfl) (Fr.sub_cons (by kernel_rfl) (Fr.sub_cons (by kernel_rfl) (Fr.sub_nil _)))))))))) (J175 _ hF)
                                      | false =>
                                        replace hF := ifB_f hF
                                        refine W.cond_false (by kernel_rfl) (by kernel_rfl) ?_
                                        refine W.skip (by kernel_rfl) ?_
                                        exact Go.weaken (Fr.sub_cons (by kernel_rfl) (Fr.sub_cons (by kernel_rfl) (Fr.sub_cons (by kernel_rfl) (Fr.sub_cons (by kernel_rfl) (Fr.sub_cons (by kernel_rfl) (Fr.sub_cons (by kernel_rfl) (Fr.sub_cons (by kernel_rfl) (Fr.sub_cons (by kernel_rfl) (Fr.sub_cons (by kernel_rfl) (Fr.sub_nil _)))))))))) (J175 _ hF)
                                    cases t125 with
                                    | true =>
                                      replace hF := ifB_t hF
                                      refine W.cond_true (by kernel_rfl) (by kernel_rfl) ?_
                                      refine W.region (by kernel_rfl) ?_
                                      refine WL.val (d := (some 126)) (v := r86) (h' := h_161) (by kernel_rfl) (by kernel_rfl) (by kernel_rfl) ?_
                                      refine WL.val (d := (some 127)) (v := t2) (h' := h_161) (by kernel_rfl) (by kernel_rfl) (by kernel_rfl) ?_
                                      refine WL.val (d := (some 128)) (v := .int .i64 t21) (h' := h_161) (by kernel_rfl) (by kernel_rfl) (by kernel_rfl) ?_
                                      replace hF := obind_some hF; obtain ⟨t129, e183, hF⟩ := hF
                                      refine WL.val (d := (some 129)) (v := t129) (h' := h_161) (by kernel_rfl) (by kernel_rfl) (Eq.trans (by kernel_rfl) (index_row (P := Try.prog) (h := h_161) (t := 22) (e' := 9) (k := .i64) (by kernel_rfl) (by kernel_rfl) (by kernel_rfl) e183)) ?_
                                      replace hF := obind_some hF; obtain ⟨v130, e184, hF⟩ := hF
                                      replace hF := obind_some hF; obtain ⟨t130, c185, hF⟩ := hF
                                      have c185 := avStr_some c185
                                      subst c185
                                      refine WL.val (d := (some 130)) (v := strA t130) (h' := h_161) (by kernel_rfl) (by kernel_rfl) (Eq.trans (by kernel_rfl) (load_cell (P := Try.prog) (h := h_161) (t := 9) (by kernel_rfl) e184)) ?_
                                      replace hF := callN_some hF; obtain ⟨r131, h_186, e187, hF⟩ := hF
                                      refine WL.call (hc.ok w0) (d := (some 131)) (by kernel_rfl) (by kernel_rfl) (by kernel_rfl) e187 ?_
                                      refine WL.nil (by kernel_rfl) ?_
                                      refine Go.weaken (l' := [(0, .int .i64 t0), (2, t2), (3, t3), (13, strA t72), (15, strA t77), (17, strA t82), (19, r86), (20, r102), (21, .int .i64 t21)]) (Fr.sub_cons (by kernel_rfl) (Fr.sub_cons (by kernel_rfl) (Fr.sub_cons (by kernel_rfl) (Fr.sub_cons (by kernel_rfl) (Fr.sub_cons (by kernel_rfl) (Fr.sub_cons (by kernel_rfl) (Fr.sub_cons (by kernel_rfl) (Fr.sub_cons (by kernel_rfl) (Fr.sub_cons (by kernel_rfl) (Fr.sub_nil _)))))))))) ?_
                                      exact Go.weaken (Fr.sub_cons (by kernel_rfl) (Fr.sub_cons (by kernel_rfl) (Fr.sub_cons (by kernel_rfl) (Fr.sub_cons (by kernel_rfl) (Fr.sub_cons (by kernel_rfl) (Fr.sub_cons (by kernel_rfl) (Fr.sub_cons (by kernel_rfl) (Fr.sub_cons (by kernel_rfl) (Fr.sub_cons (by kernel_rfl) (Fr.sub_nil _)))))))))) (J170 _ hF)
                                    | false =>
                                      replace hF := ifB_f hF
                                      refine W.cond_false (by kernel_rfl) (by kernel_rfl) ?_
                                      refine W.skip (by kernel_rfl) ?_
                                      exact Go.weaken (Fr.sub_cons (by kernel_rfl) (Fr.sub_cons (by kernel_rfl) (Fr.sub_cons (by kernel_rfl) (Fr.sub_cons (by kernel_rfl) (Fr.sub_cons (by kernel_rfl) (Fr.sub_cons (by kernel_rfl) (Fr.sub_cons (by kernel_rfl) (Fr.sub_cons (by kernel_rfl) (Fr.sub_cons (by kernel_rfl) (Fr.sub_nil _)))))))))) (J170 _ hF)
                                  | false =>
                                    replace hF := ifB_f hF
                                    refine W.cond_false (by kernel_rfl) (by kernel_rfl) ?_
                                    refine W.exit (by kernel_rfl) ?_
                                    refine e157 ?_
                                    refine e155 ?_
                                    refine s92 (by kernel_rfl) ?_
                                    exact Go.weaken (Fr.sub_cons (by kernel_rfl) (Fr.sub_cons (by kernel_rfl) (Fr.sub_cons (by kernel_rfl) (Fr.sub_cons (by kernel_rfl) (Fr.sub_cons (by kernel_rfl) (Fr.sub_cons (by kernel_rfl) (Fr.sub_nil _))))))) (J93 _ hF)
                                cases t113 with
                                | true =>
                                  replace hF := ifB_t hF
                                  refine WL.not (d := (some 115)) (by kernel_rfl) (by kernel_rfl) ?_
                                  refine WL.not (d := (some 116)) (by kernel_rfl) (by kernel_rfl) ?_
                                  refine WL.not (d := (some 117)) (by kernel_rfl) (by kernel_rfl) ?_
                                  refine WL.not (d := (some 118)) (by kernel_rfl) (by kernel_rfl) ?_
                                  refine WL.val (d := (some 119)) (v := .bool true) (h' := h_156) (by kernel_rfl) (by kernel_rfl) (by kernel_rfl) ?_
                                  exact WL.weaken (Fr.sub_cons (by kernel_rfl) (Fr.sub_cons (by kernel_rfl) (Fr.sub_cons (by kernel_rfl) (Fr.sub_cons (by kernel_rfl) (Fr.sub_cons (by kernel_rfl) (Fr.sub_cons (by kernel_rfl) (Fr.sub_cons (by kernel_rfl) (Fr.sub_cons (by kernel_rfl) (Fr.sub_cons (by kernel_rfl) (Fr.sub_cons (by kernel_rfl) (Fr.sub_nil _))))))))))) (J163 _ _ hF)
                                | false =>
                                  replace hF := ifB_f hF
                                  refine WL.val (d := (some 115)) (v := .int .i64 t21) (h' := h_156) (by kernel_rfl) (by kernel_rfl) (by kernel_rfl) ?_
                                  refine WL.val (d := (some 116)) (v := t3) (h' := h_156) (by kernel_rfl) (by kernel_rfl) (by kernel_rfl) ?_
                                  replace hF := obind_some hF; obtain ⟨t117, e188, hF⟩ := hF
                                  refine WL.val (d := (some 117)) (v := .int .i64 t117) (h' := h_156) (by kernel_rfl) (by kernel_rfl) (Eq.trans (by kernel_rfl) (len_row (P := Try.prog) (h := h_156) (t := 22) (e' := 9) (by kernel_rfl) e188)) ?_
                                  replace hF := lett_some hF; obtain ⟨t118, e189, hF⟩ := hF
                                  refine WL.val (d := (some 118)) (v := .bool t118) (h' := h_156) (by kernel_rfl) (by kernel_rfl) (val_of AV.bool e189 (by kernel_rfl)) ?_
                                  refine WL.val (d := (some 119)) (v := .bool t118) (h' := h_156) (by kernel_rfl) (by kernel_rfl) (by kernel_rfl) ?_
                                  exact WL.weaken (Fr.sub_cons (by kernel_rfl) (Fr.sub_cons (by kernel_rfl) (Fr.sub_cons (by kernel_rfl) (Fr.sub_cons (by kernel_rfl) (Fr.sub_cons (by kernel_rfl) (Fr.sub_cons (by kernel_rfl) (Fr.sub_cons (by kernel_rfl) (Fr.sub_cons (by kernel_rfl) (Fr.sub_cons (by kernel_rfl) (Fr.sub_cons (by kernel_rfl) (Fr.sub_nil _))))))))))) (J163 _ _ hF)
                            exact Go.weaken (Fr.sub_cons (by kernel_rfl) (Fr.sub_cons (by kernel_rfl) (Fr.sub_cons (by kernel_rfl) (Fr.sub_cons (by kernel_rfl) (Fr.sub_cons (by kernel_rfl) (Fr.sub_cons (by kernel_rfl) (Fr.sub_cons (by kernel_rfl) (Fr.sub_cons (by kernel_rfl) (Fr.sub_cons (by kernel_rfl) (Fr.sub_nil _)))))))))) (L155 _ _ _ hF)
                        cases t104 with
                        | true =>
                          replace hF := ifB_t hF
                          refine WL.not (d := (some 106)) (by kernel_rfl) (by kernel_rfl) ?_
                          refine WL.not (d := (some 107)) (by kernel_rfl) (by kernel_rfl) ?_
                          refine WL.not (d := (some 108)) (by kernel_rfl) (by kernel_rfl) ?_
                          refine WL.val (d := (some 109)) (v := .bool true) (h' := h_83) (by kernel_rfl) (by kernel_rfl) (by kernel_rfl) ?_
                          exact WL.weaken (Fr.sub_cons (by kernel_rfl) (Fr.sub_cons (by kernel_rfl) (Fr.sub_cons (by kernel_rfl) (Fr.sub_cons (by kernel_rfl) (Fr.sub_cons (by kernel_rfl) (Fr.sub_cons (by kernel_rfl) (Fr.sub_cons (by kernel_rfl) (Fr.sub_cons (by kernel_rfl) (Fr.sub_cons (by kernel_rfl) (Fr.sub_nil _)))))))))) (J88 _ _ hF)
                        | false =>
                          replace hF := ifB_f hF
                          refine WL.val (d := (some 106)) (v := r102) (h' := h_83) (by kernel_rfl) (by kernel_rfl) (by kernel_rfl) ?_
                          refine WL.val (d := (some 107)) (v := r86) (h' := h_83) (by kernel_rfl) (by kernel_rfl) (by kernel_rfl) ?_
                          replace hF := outK_some hF; obtain ⟨v108, h_190, e191, hF⟩ := hF
                          replace hF := obind_some hF; obtain ⟨t108, c192, hF⟩ := hF
                          have c192 := avBool_some c192
                          subst c192
                          refine WL.val (d := (some 108)) (v := .bool t108) (h' := h_190) (by kernel_rfl) (by kernel_rfl) (Eq.trans (by kernel_rfl) e191) ?_
                          refine WL.val (d := (some 109)) (v := .bool t108) (h' := h_190) (by kernel_rfl) (by kernel_rfl) (by kernel_rfl) ?_
                          exact WL.weaken (Fr.sub_cons (by kernel_rfl) (Fr.sub_cons (by kernel_rfl) (Fr.sub_cons (by kernel_rfl) (Fr.sub_cons (by kernel_rfl) (Fr.sub_cons (by kernel_rfl) (Fr.sub_cons (by kernel_rfl) (Fr.sub_cons (by kernel_rfl) (Fr.sub_cons (by kernel_rfl) (Fr.sub_cons (by kernel_rfl) (Fr.sub_nil _)))))))))) (J88 _ _ hF)
                    cases t96 with
                    | true =>
                      replace hF := ifB_t hF
                      refine WL.not (d := (some 98)) (by kernel_rfl) (by kernel_rfl) ?_
                      refine WL.not (d := (some 99)) (by kernel_rfl) (by kernel_rfl) ?_
                      refine WL.val (d := (some 100)) (v := .bool true) (h' := h_71) (by kernel_rfl) (by kernel_rfl) (by kernel_rfl) ?_
                      exact WL.weaken (Fr.sub_cons (by kernel_rfl) (Fr.sub_cons (by kernel_rfl) (Fr.sub_cons (by kernel_rfl) (Fr.sub_cons (by kernel_rfl) (Fr.sub_cons (by kernel_rfl) (Fr.sub_cons (by kernel_rfl) (Fr.sub_cons (by kernel_rfl) (Fr.sub_cons (by kernel_rfl) (Fr.sub_nil _))))))))) (J76 _ _ hF)
                    | false =>
                      replace hF := ifB_f hF
                      refine WL.val (d := (some 98)) (v := r86) (h' := h_71) (by kernel_rfl) (by kernel_rfl) (by kernel_rfl) ?_
                      replace hF := outK_some hF; obtain ⟨v99, h_193, e194, hF⟩ := hF
                      replace hF := obind_some hF; obtain ⟨t99, c195, hF⟩ := hF
                      have c195 := avBool_some c195
                      subst c195
                      refine WL.val (d := (some 99)) (v := .bool t99) (h' := h_193) (by kernel_rfl) (by kernel_rfl) (Eq.trans (by kernel_rfl) e194) ?_
                      refine WL.val (d := (some 100)) (v := .bool t99) (h' := h_193) (by kernel_rfl) (by kernel_rfl) (by kernel_rfl) ?_
                      exact WL.weaken (Fr.sub_cons (by kernel_rfl) (Fr.sub_cons (by kernel_rfl) (Fr.sub_cons (by kernel_rfl) (Fr.sub_cons (by kernel_rfl) (Fr.sub_cons (by kernel_rfl) (Fr.sub_cons (by kernel_rfl) (Fr.sub_cons (by kernel_rfl) (Fr.sub_cons (by kernel_rfl) (Fr.sub_nil _))))))))) (J76 _ _ hF)
                  cases t92 with
                  | true =>
                    replace hF := ifB_t hF
                    refine WL.not (d := (some 94)) (by kernel_rfl) (by kernel_rfl) ?_
                    refine WL.not (d := (some 95)) (by kernel_rfl) (by kernel_rfl) ?_
                    refine WL.val (d := (some 96)) (v := .bool true) (h' := h_68) (by kernel_rfl) (by kernel_rfl) (by kernel_rfl) ?_
                    exact WL.weaken (Fr.sub_cons (by kernel_rfl) (Fr.sub_cons (by kernel_rfl) (Fr.sub_cons (by kernel_rfl) (Fr.sub_cons (by kernel_rfl) (Fr.sub_cons (by kernel_rfl) (Fr.sub_cons (by kernel_rfl) (Fr.sub_cons (by kernel_rfl) (Fr.sub_cons (by kernel_rfl) (Fr.sub_nil _))))))))) (J73 _ _ hF)
                  | false =>
                    replace hF := ifB_f hF
                    refine WL.val (d := (some 94)) (v := .bool t83) (h' := h_68) (by kernel_rfl) (by kernel_rfl) (by kernel_rfl) ?_
                    replace hF := lett_some hF; obtain ⟨t95, e196, hF⟩ := hF
                    refine WL.val (d := (some 95)) (v := .bool t95) (h' := h_68) (by kernel_rfl) (by kernel_rfl) (val_of AV.bool e196 (by kernel_rfl)) ?_
                    refine WL.val (d := (some 96)) (v := .bool t95) (h' := h_68) (by kernel_rfl) (by kernel_rfl) (by kernel_rfl) ?_
                    exact WL.weaken (Fr.sub_cons (by kernel_rfl) (Fr.sub_cons (by kernel_rfl) (Fr.sub_cons (by kernel_rfl) (Fr.sub_cons (by kernel_rfl) (Fr.sub_cons (by kernel_rfl) (Fr.sub_cons (by kernel_rfl) (Fr.sub_cons (by kernel_rfl) (Fr.sub_cons (by kernel_rfl) (Fr.sub_nil _))))))))) (J73 _ _ hF)
                cases t88 with
                | true =>
                  replace hF := ifB_t hF
                  refine WL.not (d := (some 90)) (by kernel_rfl) (by kernel_rfl) ?_
                  refine WL.not (d := (some 91)) (by kernel_rfl) (by kernel_rfl) ?_
                  refine WL.val (d := (some 92)) (v := .bool true) (h' := h_63) (by kernel_rfl) (by kernel_rfl) (by kernel_rfl) ?_
                  exact WL.weaken (Fr.sub_cons (by kernel_rfl) (Fr.sub_cons (by kernel_rfl) (Fr.sub_cons (by kernel_rfl) (Fr.sub_cons (by kernel_rfl) (Fr.sub_cons (by kernel_rfl) (Fr.sub_cons (by kernel_rfl) (Fr.sub_cons (by kernel_rfl) (Fr.sub_cons (by kernel_rfl) (Fr.sub_cons (by kernel_rfl) (Fr.sub_nil _)))))))))) (J70 _ _ hF)
                | false =>
                  replace hF := ifB_f hF
                  refine WL.val (d := (some 90)) (v := .bool t78) (h' := h_63) (by kernel_rfl) (by kernel_rfl) (by kernel_rfl) ?_
                  replace hF := lett_some hF; obtain ⟨t91, e197, hF⟩ := hF
                  refine WL.val (d := (some 91)) (v := .bool t91) (h' := h_63) (by kernel_rfl) (by kernel_rfl) (val_of AV.bool e197 (by kernel_rfl)) ?_
                  refine WL.val (d := (some 92)) (v := .bool t91) (h' := h_63) (by kernel_rfl) (by kernel_rfl) (by kernel_rfl) ?_
                  exact WL.weaken (Fr.sub_cons (by kernel_rfl) (Fr.sub_cons (by kernel_rfl) (Fr.sub_cons (by kernel_rfl) (Fr.sub_cons (by kernel_rfl) (Fr.sub_cons (by kernel_rfl) (Fr.sub_cons (by kernel_rfl) (Fr.sub_cons (by kernel_rfl) (Fr.sub_cons (by kernel_rfl) (Fr.sub_cons (by kernel_rfl) (Fr.sub_nil _)))))))))) (J70 _ _ hF)
            cases t63 with
            | true =>
              replace hF := ifB_t hF
              refine WL.not (d := (some 65)) (by kernel_rfl) (by kernel_rfl) ?_
              refine WL.not (d := (some 66)) (by kernel_rfl) (by kernel_rfl) ?_
              refine WL.not (d := (some 67)) (by kernel_rfl) (by kernel_rfl) ?_
              refine WL.val (d := (some 68)) (v := .bool true) (h' := h_34) (by kernel_rfl) (by kernel_rfl) (by kernel_rfl) ?_
              exact WL.weaken (Fr.sub_cons (by kernel_rfl) (Fr.sub_cons (by kernel_rfl) (Fr.sub_cons (by kernel_rfl) (Fr.sub_cons (by kernel_rfl) (Fr.sub_cons (by kernel_rfl) (Fr.sub_nil _)))))) (J39 _ _ hF)
            | false =>
              replace hF := ifB_f hF
              refine WL.val (d := (some 65)) (v := AV.nilp) (h' := h_34) (by kernel_rfl) (by kernel_rfl) (by kernel_rfl) ?_
              replace hF := callN_some hF; obtain ⟨r66, h_198, e199, hF⟩ := hF
              refine WL.call (hc.ok w0) (d := (some 66)) (by kernel_rfl) (by kernel_rfl) (by kernel_rfl) e199 ?_
              replace hF := outK_some hF; obtain ⟨v67, h_200, e201, hF⟩ := hF
              replace hF := obind_some hF; obtain ⟨t67, c202, hF⟩ := hF
              have c202 := avBool_some c202
              subst c202
              refine WL.val (d := (some 67)) (v := .bool t67) (h' := h_200) (by kernel_rfl) (by kernel_rfl) (Eq.trans (by kernel_rfl) e201) ?_
              refine WL.val (d := (some 68)) (v := .bool t67) (h' := h_200) (by kernel_rfl) (by kernel_rfl) (by kernel_rfl) ?_
              exact WL.weaken (Fr.sub_cons (by kernel_rfl) (Fr.sub_cons (by kernel_rfl) (Fr.sub_cons (by kernel_rfl) (Fr.sub_cons (by kernel_rfl) (Fr.sub_cons (by kernel_rfl) (Fr.sub_nil _)))))) (J39 _ _ hF)
          cases t58 with
          | true =>
            replace hF := ifB_t hF
            refine WL.not (d := (some 60)) (by kernel_rfl) (by kernel_rfl) ?_
            refine WL.not (d := (some 61)) (by kernel_rfl) (by kernel_rfl) ?_
            refine WL.not (d := (some 62)) (by kernel_rfl) (by kernel_rfl) ?_
            refine WL.val (d := (some 63)) (v := .bool true) (h' := h_31) (by kernel_rfl) (by kernel_rfl) (by kernel_rfl) ?_
            exact WL.weaken (Fr.sub_cons (by kernel_rfl) (Fr.sub_cons (by kernel_rfl) (Fr.sub_cons (by kernel_rfl) (Fr.sub_cons (by kernel_rfl) (Fr.sub_cons (by kernel_rfl) (Fr.sub_cons (by kernel_rfl) (Fr.sub_nil _))))))) (J36 _ _ hF)
          | false =>
            replace hF := ifB_f hF
            refine WL.val (d := (some 60)) (v := AV.nilp) (h' := h_31) (by kernel_rfl) (by kernel_rfl) (by kernel_rfl) ?_
            replace hF := callN_some hF; obtain ⟨r61, h_203, e204, hF⟩ := hF
            replace hF := obind_some hF; obtain ⟨t61, c205, hF⟩ := hF
            have c205 := avInt_some c205
            subst c205
            refine WL.call (hc.ok w0) (d := (some 61)) (by kernel_rfl) (by kernel_rfl) (by kernel_rfl) e204 ?_
            replace hF := lett_some hF; obtain ⟨t62, e206, hF⟩ := hF
            refine WL.val (d := (some 62)) (v := .bool t62) (h' := h_203) (by kernel_rfl) (by kernel_rfl) (val_of AV.bool e206 (by kernel_rfl)) ?_
            refine WL.val (d := (some 63)) (v := .bool t62) (h' := h_203) (by kernel_rfl) (by kernel_rfl) (by kernel_rfl) ?_
            exact WL.weaken (Fr.sub_cons (by kernel_rfl) (Fr.sub_cons (by kernel_rfl) (Fr.sub_cons (by kernel_rfl) (Fr.sub_cons (by kernel_rfl) (Fr.sub_cons (by kernel_rfl) (Fr.sub_cons (by kernel_rfl) (Fr.sub_nil _))))))) (J36 _ _ hF)
        cases t53 with
        | true =>
          replace hF := ifB_t hF
          refine WL.not (d := (some 55)) (by kernel_rfl) (by kernel_rfl) ?_
          refine WL.not (d := (some 56)) (by kernel_rfl) (by kernel_rfl) ?_
          refine WL.not (d := (some 57)) (by kernel_rfl) (by kernel_rfl) ?_
          refine WL.val (d := (some 58)) (v := .bool true) (h' := h_28) (by kernel_rfl) (by kernel_rfl) (by kernel_rfl) ?_
          exact WL.weaken (Fr.sub_cons (by kernel_rfl) (Fr.sub_cons (by kernel_rfl) (Fr.sub_cons (by kernel_rfl) (Fr.sub_cons (by kernel_rfl) (Fr.sub_cons (by kernel_rfl) (Fr.sub_cons (by kernel_rfl) (Fr.sub_nil _))))))) (J33 _ _ hF)
        | false =>
          replace hF := ifB_f hF
          refine WL.val (d := (some 55)) (v := AV.nilp) (h' := h_28) (by kernel_rfl) (by kernel_rfl) (by kernel_rfl) ?_
          replace hF := callN_some hF; obtain ⟨r56, h_207, e208, hF⟩ := hF
          replace hF := obind_some hF; obtain ⟨t56, c209, hF⟩ := hF
          have c209 := avInt_some c209
          subst c209
          refine WL.call (hc.ok w0) (d := (some 56)) (by kernel_rfl) (by kernel_rfl) (by kernel_rfl) e208 ?_
          replace hF := lett_some hF; obtain ⟨t57, e210, hF⟩ := hF
          refine WL.val (d := (some 57)) (v := .bool t57) (h' := h_207) (by kernel_rfl) (by kernel_rfl) (val_of AV.bool e210 (by kernel_rfl)) ?_
          refine WL.val (d := (some 58)) (v := .bool t57) (h' := h_207) (by kernel_rfl) (by kernel_rfl) (by kernel_rfl) ?_
          exact WL.weaken (Fr.sub_cons (by kernel_rfl) (Fr.sub_cons (by kernel_rfl) (Fr.sub_cons (by kernel_rfl) (Fr.sub_cons (by kernel_rfl) (Fr.sub_cons (by kernel_rfl) (Fr.sub_cons (by kernel_rfl) (Fr.sub_nil _))))))) (J33 _ _ hF)
      cases t49 with
      | true =>
        replace hF := ifB_t hF
        refine WL.not (d := (some 51)) (by kernel_rfl) (by kernel_rfl) ?_
        refine WL.not (d := (some 52)) (by kernel_rfl) (by kernel_rfl) ?_
        refine WL.val (d := (some 53)) (v := .bool true) (h' := h_25) (by kernel_rfl) (by kernel_rfl) (by kernel_rfl) ?_
        exact WL.weaken (Fr.sub_cons (by kernel_rfl) (Fr.sub_cons (by kernel_rfl) (Fr.sub_cons (by kernel_rfl) (Fr.sub_cons (by kernel_rfl) (Fr.sub_cons (by kernel_rfl) (Fr.sub_cons (by kernel_rfl) (Fr.sub_nil _))))))) (J30 _ _ hF)
      | false =>
        replace hF := ifB_f hF
        refine WL.val (d := (some 51)) (v := .int .i64 t43) (h' := h_25) (by kernel_rfl) (by kernel_rfl) (by kernel_rfl) ?_
        replace hF := lett_some hF; obtain ⟨t52, e211, hF⟩ := hF
        refine WL.val (d := (some 52)) (v := .bool t52) (h' := h_25) (by kernel_rfl) (by kernel_rfl) (val_of AV.bool e211 (by kernel_rfl)) ?_
        refine WL.val (d := (some 53)) (v := .bool t52) (h' := h_25) (by kernel_rfl) (by kernel_rfl) (by kernel_rfl) ?_
        exact WL.weaken (Fr.sub_cons (by kernel_rfl) (Fr.sub_cons (by kernel_rfl) (Fr.sub_cons (by kernel_rfl) (Fr.sub_cons (by kernel_rfl) (Fr.sub_cons (by kernel_rfl) (Fr.sub_cons (by kernel_rfl) (Fr.sub_nil _))))))) (J30 _ _ hF)
    cases t45 with
    | true =>
      replace hF := ifB_t hF
      refine WL.not (d := (some 47)) (by kernel_rfl) (by kernel_rfl) ?_
      refine WL.not (d := (some 48)) (by kernel_rfl) (by kernel_rfl) ?_
      refine WL.val (d := (some 49)) (v := .bool true) (h' := h_14) (by kernel_rfl) (by kernel_rfl) (by kernel_rfl) ?_
      exact WL.weaken (Fr.sub_cons (by kernel_rfl) (Fr.sub_cons (by kernel_rfl) (Fr.sub_cons (by kernel_rfl) (Fr.sub_cons (by kernel_rfl) (Fr.sub_cons (by kernel_rfl) (Fr.sub_cons (by kernel_rfl) (Fr.sub_cons (by kernel_rfl) (Fr.sub_nil _)))))))) (J27 _ _ hF)
    | false =>
      replace hF := ifB_f hF
      refine WL.val (d := (some 47)) (v := .int .i64 t42) (h' := h_14) (by kernel_rfl) (by kernel_rfl) (by kernel_rfl) ?_
      replace hF := lett_some hF; obtain ⟨t48, e212, hF⟩ := hF
      refine WL.val (d := (some 48)) (v := .bool t48) (h' := h_14) (by kernel_rfl) (by kernel_rfl) (val_of AV.bool e212 (by kernel_rfl)) ?_
      refine WL.val (d := (some 49)) (v := .bool t48) (h' := h_14) (by kernel_rfl) (by kernel_rfl) (by kernel_rfl) ?_
      exact WL.weaken (Fr.sub_cons (by kernel_rfl) (Fr.sub_cons (by kernel_rfl) (Fr.sub_cons (by kernel_rfl) (Fr.sub_cons (by kernel_rfl) (Fr.sub_cons (by kernel_rfl) (Fr.sub_cons (by kernel_rfl) (Fr.sub_cons (by kernel_rfl) (Fr.sub_nil _)))))))) (J27 _ _ hF)
noncomputable def law21_RingCopies_fn (call : CallF) (n : Nat) : FnT := fun args h => match args with
  | [x0, x1, x2, x3] => obind (avInt .i64 x0) fun t0 => law21_RingCopies call n t0 x1 x2 x3 h
  | _ => none
set_option maxRecDepth 100000 in
theorem law21_RingCopies_fn_eq (call : CallF) (n : Nat) (t0 : Int) (t1 : AV) (t2 : AV) (t3 : AV) (h : AHeap) : law21_RingCopies_fn call n [.int .i64 t0, t1, t2, t3] h = law21_RingCopies call n t0 t1 t2 t3 h :=
  (Eq.trans (obind_eq (fun t0 => law21_RingCopies call n t0 t1 t2 t3 h) (avInt_int .i64 t0)) rfl)
theorem law21_RingCopies_holds {call : CallF} (hc : SaysAll Try.prog call) (n : Nat) : Holds Try.prog 6 (law21_RingCopies_fn call n) := by
  intro args h r h2 e
  unfold law21_RingCopies_fn at e
  split at e
  · replace e := obind_some e; obtain ⟨t0, c0, e⟩ := e; have c0 := avInt_some c0; subst c0
    exact law21_RingCopies_ok hc e
  · cases e

end Go.Proofs.Ytbihkjbhmiemhaa
