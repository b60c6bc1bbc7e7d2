/- Plain functions in place of the program's, and that their calls come to what they say. -/
import Derived.Test.YthdkfofkghpmcaaFrame
import Derived.Test.YthdkfofkghpmcaaAbs54
namespace Go.Proofs.Ythdkfofkghpmcaa
open Go.RowKit Abs

noncomputable def law05_NetCopies_L1b (call : CallF) (t0 : AV) (k31 : AV → AV → AV → AHeap → R) (self : AV → AV → AV → Int → AHeap → R) (t7_196 : AV) (t8_197 : AV) (t9_198 : AV) (t10 : Int) (h_199 : AHeap) : R :=
  obind (lenL t0) fun t38 =>
  lett (decide (t10 < t38)) fun (t39 : Bool) =>
  ifB t39
  (
    obind (idxP 4 t0 t10) fun t46 =>
    obind (ldRow h_199 4 t46) fun t47 =>
    callN (call 12 [t7_196, .agg t47] h_199) fun r48 h_209 =>
    obind (extT 0 r48) fun v49 =>
    obind (extT 1 r48) fun v50 =>
    obind (avAgg v50) fun _ =>
    obind (idxP 4 t0 t10) fun t55 =>
    obind (ldRow h_209 4 t55) fun t56 =>
    callN (call 12 [t8_197, .agg t56] h_209) fun r57 h_217 =>
    obind (extT 0 r57) fun v58 =>
    obind (extT 1 r57) fun v59 =>
    obind (avAgg v59) fun _ =>
    obind (idxP 4 t0 t10) fun t64 =>
    obind (ldRow h_217 4 t64) fun t65 =>
    callN (call 12 [t9_198, .agg t65] h_217) fun r66 h_225 =>
    obind (extT 0 r66) fun v67 =>
    obind (extT 1 r66) fun v68 =>
    obind (avAgg v68) fun _ =>
    outK (opBin Try.prog h_225 .eql 25 true (some v49) (some AV.nilp)) fun v70 h_231 =>
    obind (avBool v70) fun t70 =>
    lett (fun (t74 : Bool) (h_234 : AHeap) =>
      lett (fun (t78 : Bool) (h_237 : AHeap) =>
        ifB t78
        (
          some (.ret (.bool false), h_237))
        (
          lett (IntKind.i64.wrap (t10 + 1)) fun (t41 : Int) =>
          self v49 v58 v67 t41 h_237)) fun j78 =>
      ifB t74
      (
        j78 true h_234)
      (
        outK (opBin Try.prog h_234 .eql 25 true (some v67) (some AV.nilp)) fun v77 h_242 =>
        obind (avBool v77) fun t77 =>
        j78 t77 h_242)) fun j74 =>
    ifB t70
    (
      j74 true h_231)
    (
      outK (opBin Try.prog h_231 .eql 25 true (some v58) (some AV.nilp)) fun v73 h_245 =>
      obind (avBool v73) fun t73 =>
      j74 t73 h_245))
  (
    k31 t7_196 t8_197 t9_198 h_199)
noncomputable def law05_NetCopies_L1 (call : CallF) (t0 : AV) (k31 : AV → AV → AV → AHeap → R) : Nat → AV → AV → AV → Int → AHeap → R := iterR (fun _ _ _ _ _ => none) (law05_NetCopies_L1b call t0 k31)
theorem law05_NetCopies_L1_s (call : CallF) (t0 : AV) (k31 : AV → AV → AV → AHeap → R) (m : Nat) : law05_NetCopies_L1 call t0 k31 (m + 1) = law05_NetCopies_L1b call t0 k31 (law05_NetCopies_L1 call t0 k31 m) := rfl
noncomputable def law05_NetCopies_L0b (call : CallF) (t1 : AV) (t2 : AV) (k48 : AV → AV → AV → AV → AHeap → R) (self : AV → AV → AV → AV → Int → AHeap → R) (t7_72 : AV) (t8_73 : AV) (t9_74 : AV) (t11_75 : AV) (t12 : Int) (h_76 : AHeap) : R :=
  obind (lenL t1) fun t90 =>
  lett (decide (t12 < t90)) fun (t91 : Bool) =>
  lett (fun (t97 : Bool) (h_81 : AHeap) =>
    ifB t97
    (
      obind (lenL t1) fun t102 =>
      lett (decide (t12 < t102)) fun (t103 : Bool) =>
      lett (fun (t7_91 : AV) (t8_92 : AV) (h_93 : AHeap) =>
        obind (lenL t2) fun t129 =>
        lett (decide (t12 < t129)) fun (t130 : Bool) =>
        lett (fun (t9_99 : AV) (t11_100 : AV) (h_101 : AHeap) =>
          outK (opBin Try.prog h_101 .eql 25 true (some t7_91) (some AV.nilp)) fun v155 h_103 =>
          obind (avBool v155) fun t155 =>
          lett (fun (t159 : Bool) (h_106 : AHeap) =>
            lett (fun (t163 : Bool) (h_109 : AHeap) =>
              lett (fun (t167 : Bool) (h_112 : AHeap) =>
                ifB t167
                (
                  some (.ret (.bool false), h_112))
                (
                  lett (IntKind.i64.wrap (t12 + 1)) fun (t99 : Int) =>
                  self t7_91 t8_92 t9_99 t11_100 t99 h_112)) fun j167 =>
              ifB t163
              (
                j167 true h_109)
              (
                outK (opBin Try.prog h_109 .eql 25 true (some t11_100) (some AV.nilp)) fun v166 h_117 =>
                obind (avBool v166) fun t166 =>
                j167 t166 h_117)) fun j163 =>
            ifB t159
            (
              j163 true h_106)
            (
              outK (opBin Try.prog h_106 .eql 25 true (some t9_99) (some AV.nilp)) fun v162 h_120 =>
              obind (avBool v162) fun t162 =>
              j163 t162 h_120)) fun j159 =>
          ifB t155
          (
            j159 true h_103)
          (
            outK (opBin Try.prog h_103 .eql 25 true (some t8_92) (some AV.nilp)) fun v158 h_123 =>
            obind (avBool v158) fun t158 =>
            j159 t158 h_123)) fun k98 =>
        ifB t130
        (
          obind (idxP 4 t2 t12) fun t135 =>
          obind (ldRow h_93 4 t135) fun t136 =>
          callN (call 12 [t11_75, .agg t136] h_93) fun r137 h_129 =>
          obind (extT 0 r137) fun v138 =>
          obind (extT 1 r137) fun v139 =>
          obind (avAgg v139) fun t139 =>
          lett (newH h_129 35 [.int .i64 0, .int .i64 0, .int .i64 0, .int .i64 0, .str 0 0, .int .i64 0]) fun h_134 =>
          obind (stRow h_134 6 t139 (newP h_129)) fun h_136 =>
          obind (idxP 4 t2 t12) fun t144 =>
          obind (ldRow h_136 4 t144) fun t145 =>
          callN (call 12 [t9_74, .agg t145] h_136) fun r146 h_141 =>
          obind (extT 0 r146) fun v147 =>
          obind (extT 1 r146) fun v148 =>
          obind (avAgg v148) fun t148 =>
          lett (newH h_141 35 [.int .i64 0, .int .i64 0, .int .i64 0, .int .i64 0, .str 0 0, .int .i64 0]) fun h_146 =>
          obind (stRow h_146 6 t148 (newP h_141)) fun h_148 =>
          obind (ldRow h_148 6 (newP h_129)) fun t151 =>
          obind (ldRow h_148 6 (newP h_141)) fun t152 =>
          obind (eqOther Try.prog 35 (.agg t151) (.agg t152)) fun t153 =>
          lett (!t153) fun (t153_155 : Bool) =>
          ifB t153_155
          (
            some (.ret (.bool false), h_148))
          (
            k98 v147 v138 h_148))
        (
          k98 t9_74 t11_75 h_93)) fun k90 =>
      ifB t103
      (
        obind (idxP 4 t1 t12) fun t108 =>
        obind (ldRow h_81 4 t108) fun t109 =>
        callN (call 12 [t7_72, .agg t109] h_81) fun r110 h_161 =>
        obind (extT 0 r110) fun v111 =>
        obind (extT 1 r110) fun v112 =>
        obind (avAgg v112) fun t112 =>
        lett (newH h_161 35 [.int .i64 0, .int .i64 0, .int .i64 0, .int .i64 0, .str 0 0, .int .i64 0]) fun h_166 =>
        obind (stRow h_166 6 t112 (newP h_161)) fun h_168 =>
        obind (idxP 4 t1 t12) fun t117 =>
        obind (ldRow h_168 4 t117) fun t118 =>
        callN (call 12 [t8_73, .agg t118] h_168) fun r119 h_173 =>
        obind (extT 0 r119) fun v120 =>
        obind (extT 1 r119) fun v121 =>
        obind (avAgg v121) fun t121 =>
        lett (newH h_173 35 [.int .i64 0, .int .i64 0, .int .i64 0, .int .i64 0, .str 0 0, .int .i64 0]) fun h_178 =>
        obind (stRow h_178 6 t121 (newP h_173)) fun h_180 =>
        obind (ldRow h_180 6 (newP h_161)) fun t124 =>
        obind (ldRow h_180 6 (newP h_173)) fun t125 =>
        obind (eqOther Try.prog 35 (.agg t124) (.agg t125)) fun t126 =>
        lett (!t126) fun (t126_187 : Bool) =>
        ifB t126_187
        (
          some (.ret (.bool false), h_180))
        (
          k90 v111 v120 h_180))
      (
        k90 t7_72 t8_73 h_81))
    (
      k48 t7_72 t8_73 t9_74 t11_75 h_81)) fun j97 =>
  ifB t91
  (
    j97 true h_76)
  (
    obind (lenL t2) fun t95 =>
    lett (decide (t12 < t95)) fun (t96 : Bool) =>
    j97 t96 h_76)
noncomputable def law05_NetCopies_L0 (call : CallF) (t1 : AV) (t2 : AV) (k48 : AV → AV → AV → AV → AHeap → R) : Nat → AV → AV → AV → AV → Int → AHeap → R := iterR (fun _ _ _ _ _ _ => none) (law05_NetCopies_L0b call t1 t2 k48)
theorem law05_NetCopies_L0_s (call : CallF) (t1 : AV) (t2 : AV) (k48 : AV → AV → AV → AV → AHeap → R) (m : Nat) : law05_NetCopies_L0 call t1 t2 k48 (m + 1) = law05_NetCopies_L0b call t1 t2 k48 (law05_NetCopies_L0 call t1 t2 k48 m) := rfl
noncomputable def law05_NetCopies (call : CallF) (n : Nat) (t0 : AV) (t1 : AV) (t2 : AV) (h : AHeap) : R :=
  callN (call 9 [] h) fun r21 h_4 =>
  obind (avBool r21) fun t21 =>
  lett (!t21) fun (t22 : Bool) =>
  ifB t22
  (
    some (.ret (.bool false), h_4))
  (
    callN (call 10 [t0] h_4) fun r24 h_11 =>
    obind (avBool r24) fun t24 =>
    lett (fun (t28 : Bool) (h_14 : AHeap) =>
      lett (fun (t32 : Bool) (h_17 : AHeap) =>
        ifB t32
        (
          some (.ret (.bool true), h_17))
        (
          callN (call 11 [] h_17) fun r33 h_22 =>
          callN (call 11 [] h_22) fun r34 h_24 =>
          callN (call 11 [] h_24) fun r35 h_26 =>
          lett (fun (t7 : AV) (t8 : AV) (t9 : AV) (h_32 : AHeap) =>
            callN (call 17 [t7] h_32) fun r80 h_34 =>
            outK (opBin Try.prog h_34 .eql 25 true (some r80) (some AV.nilp)) fun v82 h_38 =>
            obind (avBool v82) fun t82 =>
            lett (fun (t87 : Bool) (h_41 : AHeap) =>
              ifB t87
              (
                some (.ret (.bool false), h_41))
              (
                lett (fun (t7_49 : AV) (t8_50 : AV) (t9_51 : AV) (t11 : AV) (h_52 : AHeap) =>
                  callN (call 15 [t7_49] h_52) fun r169 h_54 =>
                  callN (call 15 [t8_50] h_54) fun r171 h_56 =>
                  callN (call 14 [r169, r171] h_56) fun r172 h_58 =>
                  obind (avBool r172) fun t172 =>
                  lett (fun (t179 : Bool) (h_61 : AHeap) =>
                    some (.ret (.bool t179), h_61)) fun j179 =>
                  ifB t172
                  (
                    callN (call 15 [t11] h_58) fun r175 h_64 =>
                    callN (call 15 [t9_51] h_64) fun r177 h_66 =>
                    callN (call 14 [r175, r177] h_66) fun r178 h_68 =>
                    obind (avBool r178) fun t178 =>
                    j179 t178 h_68)
                  (
                    j179 false h_58)) fun k48 =>
                law05_NetCopies_L0 call t1 t2 k48 n t7 t8 t9 r80 0 h_41)) fun j87 =>
            ifB t82
            (
              j87 true h_38)
            (
              outK (opBinV Try.prog h_38 .eql 25 false (some r80) (some t7)) fun v86 h_192 =>
              obind (avBool v86) fun t86 =>
              j87 t86 h_192)) fun k31 =>
          law05_NetCopies_L1 call t0 k31 n r33 r34 r35 0 h_26)) fun j32 =>
      ifB t28
      (
        j32 true h_14)
      (
        callN (call 10 [t2] h_14) fun r31 h_248 =>
        obind (avBool r31) fun t31 =>
        j32 t31 h_248)) fun j28 =>
    ifB t24
    (
      j28 true h_11)
    (
      callN (call 10 [t1] h_11) fun r27 h_251 =>
      obind (avBool r27) fun t27 =>
      j28 t27 h_251))
set_option maxHeartbeats 4000000 in
set_option maxRecDepth 20000 in
theorem law05_NetCopies_ok {call : CallF} (hc : SaysAll Try.prog call) {n : Nat} {t0 : AV} {t1 : AV} {t2 : AV} {h : AHeap} {rR : ARes} {hR : AHeap} (hF : law05_NetCopies call n t0 t1 t2 h = some (rR, hR)) : Says Try.prog 6 [t0, t1, t2] h rR hR := by
  unfold law05_NetCopies at hF
  refine sO Try.func6 fun w0 m0 => ?_
  refine wW [(0, t0), (1, t1), (2, t2)] ?_
  refine oG fun n1 => W.r ?_
  refine oA 6 (.bool false) ?_
  refine oV [(0, t0), (1, t1), (2, t2)] (n1 ?_)
  refine oH fun n2 q2 => ?_
  refine oG fun n3 => W.r ?_
  refine oCb hc 21 hF fun t21 h_4 hF => ?_
  refine oB 22 hF fun t22 hF => ?_
  refine oV [(0, t0), (1, t1), (2, t2), (22, .bool t22)] (n3 ?_)
  cases t22 with
  | true =>
    refine oT hF fun hF => ?_
    refine oG fun n8 => W.r ?_
    refine oA 6 (.bool false) ?_
    refine oV [(6, .bool false)] (n8 (oY (q2 ?_)))
    exact lZ hF [.tmp 6] [.bool false] (rT res_nil)
  | false =>
    refine oU hF fun hF => ?_
    refine oZ (n2 ?_)
    refine oH fun n9 q9 => ?_
    refine W.s (fun K10 n10 e10 q10 p10 => ?_)
    refine W.r ?_
    refine oA 23 t0 ?_
    refine oCb hc 24 hF fun t24 h_11 hF => ?_
    refine oA 25 (.bool t24) ?_
    obtain ⟨j28, e15, hF⟩ := lett_some hF
    have J16 : ∀ (t28 : Bool) (h_14 : AHeap), j28 t28 h_14 = some (rR, hR) → WL Try.prog w0 m0 (Func.ntmps Try.f6) (Code.ops (Code.p1 (Code.p1 (Code.p2 (Code.p2 (codeOf Try.f6)))))) 6 K10 [(0, t0), (1, t1), (2, t2), (28, .bool t28)] [] h_14 := by
      intro t28 h_14 hF
      rw [e15] at hF
      refine oA 29 (.bool t28) ?_
      obtain ⟨j32, e18, hF⟩ := lett_some hF
      have J19 : ∀ (t32 : Bool) (h_17 : AHeap), j32 t32 h_17 = some (rR, hR) → WL Try.prog w0 m0 (Func.ntmps Try.f6) (Code.ops (Code.p1 (Code.p1 (Code.p2 (Code.p2 (codeOf Try.f6)))))) 10 K10 [(0, t0), (1, t1), (2, t2), (32, .bool t32)] [] h_17 := by
        intro t32 h_17 hF
        rw [e18] at hF
        refine oV [(0, t0), (1, t1), (2, t2), (32, .bool t32)] (n10 ?_)
        cases t32 with
        | true =>
          refine oT hF fun hF => ?_
          refine oG fun n20 => W.r ?_
          refine oA 6 (.bool true) ?_
          refine oV [(6, .bool true)] (n20 (oY (q9 ?_)))
          exact lZ hF [.tmp 6] [.bool true] (rT res_nil)
        | false =>
          refine oU hF fun hF => ?_
          refine oZ (n9 ?_)
          refine oG fun n21 => W.r ?_
          refine oC hc (some 33) hF fun r33 h_22 hF => ?_
          refine oC hc (some 34) hF fun r34 h_24 hF => ?_
          refine oC hc (some 35) hF fun r35 h_26 hF => ?_
          refine oA 7 r33 ?_
          refine oA 8 r34 ?_
          refine oA 9 r35 ?_
          refine oV [(0, t0), (1, t1), (2, t2), (7, r33), (8, r34), (9, r35)] (n21 ?_)
          refine W.s (fun K28 n28 e28 q28 p28 => ?_)
          refine oG fun n29 => W.r ?_
          refine oA 10 (.int .i64 0) ?_
          refine oV [(0, t0), (1, t1), (2, t2), (7, r33), (8, r34), (9, r35), (10, .int .i64 0)] (n29 ?_)
          obtain ⟨k31, e31, hF⟩ := lett_some hF
          have J31 : ∀ (t7 : AV) (t8 : AV) (t9 : AV) (h_32 : AHeap), k31 t7 t8 t9 h_32 = some (rR, hR) → Go w0 m0 (Func.ntmps Try.f6) (K28 .normal) [(1, t1), (2, t2), (7, t7), (8, t8), (9, t9)] [] h_32 := by
            intro t7 t8 t9 h_32 hF
            rw [e31] at hF
            refine n28 ?_
            refine oG fun n33 => W.r ?_
            refine oA 79 t7 ?_
            refine oC hc (some 80) hF fun r80 h_34 hF => ?_
            refine oA 11 r80 ?_
            refine oV [(1, t1), (2, t2), (7, t7), (8, t8), (9, t9), (11, r80)] (n33 ?_)
            refine oH fun n36 q36 => ?_
            refine W.s (fun K37 n37 e37 q37 p37 => ?_)
            refine W.r ?_
            refine oA 81 r80 ?_
            replace hF := outK_some hF; obtain ⟨v82, h_38, e39, hF⟩ := hF
            replace hF := obind_some hF; obtain ⟨t82, c40, hF⟩ := hF
            have c40 := avBool_some c40
            subst c40
            refine WL.b (some 82) (.bool t82) h_38 e39 ?_
            refine oA 83 (.bool t82) ?_
            obtain ⟨j87, e42, hF⟩ := lett_some hF
            have J43 : ∀ (t87 : Bool) (h_41 : AHeap), j87 t87 h_41 = some (rR, hR) → WL Try.prog w0 m0 (Func.ntmps Try.f6) (Code.ops (Code.p1 (Code.p1 (Code.p2 (Code.p2 (Code.p2 (Code.p2 (Code.p2 (Code.p2 (codeOf Try.f6)))))))))) 7 K37 [(1, t1), (2, t2), (7, t7), (8, t8), (9, t9), (11, r80), (87, .bool t87)] [] h_41 := by
              intro t87 h_41 hF
              rw [e42] at hF
              refine oV [(1, t1), (2, t2), (7, t7), (8, t8), (9, t9), (11, r80), (87, .bool t87)] (n37 ?_)
              cases t87 with
              | true =>
                refine oT hF fun hF => ?_
                refine oG fun n44 => W.r ?_
                refine oA 6 (.bool false) ?_
                refine oV [(6, .bool false)] (n44 (oY (q36 ?_)))
                exact lZ hF [.tmp 6] [.bool false] (rT res_nil)
              | false =>
                refine oU hF fun hF => ?_
                refine oZ (n36 ?_)
                refine W.s (fun K45 n45 e45 q45 p45 => ?_)
                refine oG fun n46 => W.r ?_
                refine oA 12 (.int .i64 0) ?_
                refine oV [(1, t1), (2, t2), (7, t7), (8, t8), (9, t9), (11, r80), (12, .int .i64 0)] (n46 ?_)
                obtain ⟨k48, e48, hF⟩ := lett_some hF
                have J48 : ∀ (t7_49 : AV) (t8_50 : AV) (t9_51 : AV) (t11 : AV) (h_52 : AHeap), k48 t7_49 t8_50 t9_51 t11 h_52 = some (rR, hR) → Go w0 m0 (Func.ntmps Try.f6) (K45 .normal) [(7, t7_49), (8, t8_50), (9, t9_51), (11, t11)] [] h_52 := by
                  intro t7_49 t8_50 t9_51 t11 h_52 hF
                  rw [e48] at hF
                  refine n45 ?_
                  refine W.s (fun K53 n53 e53 q53 p53 => ?_)
                  refine W.r ?_
                  refine oA 168 t7_49 ?_
                  refine oC hc (some 169) hF fun r169 h_54 hF => ?_
                  refine oA 170 t8_50 ?_
                  refine oC hc (some 171) hF fun r171 h_56 hF => ?_
                  refine oCb hc 172 hF fun t172 h_58 hF => ?_
                  refine oA 173 (.bool t172) ?_
                  obtain ⟨j179, e62, hF⟩ := lett_some hF
                  have J63 : ∀ (t179 : Bool) (h_61 : AHeap), j179 t179 h_61 = some (rR, hR) → WL Try.prog w0 m0 (Func.ntmps Try.f6) (Code.ops (Code.p1 (Code.p2 (Code.p2 (Code.p2 (Code.p2 (Code.p2 (Code.p2 (Code.p2 (Code.p2 (codeOf Try.f6))))))))))) 12 K53 [(179, .bool t179)] [] h_61 := by
                    intro t179 h_61 hF
                    rw [e62] at hF
                    refine oA 6 (.bool t179) ?_
                    refine oV [(6, .bool t179)] (n53 (oY ?_))
                    exact lZ hF [.tmp 6] [.bool t179] (rT res_nil)
                  cases t172 with
                  | true =>
                    replace hF := ifB_t hF
                    refine oA 174 t11 ?_
                    refine oC hc (some 175) hF fun r175 h_64 hF => ?_
                    refine oA 176 t9_51 ?_
                    refine oC hc (some 177) hF fun r177 h_66 hF => ?_
                    refine oCb hc 178 hF fun t178 h_68 hF => ?_
                    refine oA 179 (.bool t178) ?_
                    exact lW _ (J63 _ _ hF)
                  | false =>
                    replace hF := ifB_f hF
                    refine WL.o (some 174) ?_
                    refine WL.o (some 175) ?_
                    refine WL.o (some 176) ?_
                    refine WL.o (some 177) ?_
                    refine WL.o (some 178) ?_
                    refine oA 179 (.bool false) ?_
                    exact lW _ (J63 _ _ hF)
                refine W.blockK (by kernel_rfl) (fun K47 n47 s47 o47 q47 p47 => ?_)
                refine W.loopK (by kernel_rfl) (fun I71 K71 b71 n71 e71 q71 p71 => ?_)
                have L71 : ∀ (m : Nat) (t7_72 : AV) (t8_73 : AV) (t9_74 : AV) (t11_75 : AV) (t12 : Int) (h_76 : AHeap), law05_NetCopies_L0 call t1 t2 k48 m t7_72 t8_73 t9_74 t11_75 t12 h_76 = some (rR, hR) → Go w0 m0 (Func.ntmps Try.f6) I71 [(1, t1), (2, t2), (7, t7_72), (8, t8_73), (9, t9_74), (11, t11_75), (12, .int .i64 t12)] [] h_76 := by
                  intro m
                  induction m with
                  | zero => intro t7_72 t8_73 t9_74 t11_75 t12 h_76 hF; cases hF
                  | succ m ih71 =>
                    intro t7_72 t8_73 t9_74 t11_75 t12 h_76 hF
                    rw [law05_NetCopies_L0_s] at hF; unfold law05_NetCopies_L0b at hF
                    refine b71 ?_
                    refine W.s (fun K77 n77 e77 q77 p77 => ?_)
                    refine W.s (fun K78 n78 e78 q78 p78 => ?_)
                    refine W.r ?_
                    refine oA 88 (.int .i64 t12) ?_
                    refine oA 89 t1 ?_
                    refine oM 90 22 39 hF fun t90 hF => ?_
                    refine oB 91 hF fun t91 hF => ?_
                    refine oA 92 (.bool t91) ?_
                    obtain ⟨j97, e82, hF⟩ := lett_some hF
                    have J83 : ∀ (t97 : Bool) (h_81 : AHeap), j97 t97 h_81 = some (rR, hR) → WL Try.prog w0 m0 (Func.ntmps Try.f6) (Code.ops (Code.p1 (Code.p1 (Code.p1 (Code.p1 (Code.p2 (Code.p1 (Code.p2 (Code.p2 (Code.p2 (Code.p2 (Code.p2 (Code.p2 (Code.p2 (codeOf Try.f6))))))))))))))) 10 K78 [(1, t1), (2, t2), (7, t7_72), (8, t8_73), (9, t9_74), (11, t11_75), (12, .int .i64 t12), (97, .bool t97)] [] h_81 := by
                      intro t97 h_81 hF
                      rw [e82] at hF
                      refine oV [(1, t1), (2, t2), (7, t7_72), (8, t8_73), (9, t9_74), (11, t11_75), (12, .int .i64 t12), (97, .bool t97)] (n78 ?_)
                      cases t97 with
                      | true =>
                        refine oT hF fun hF => ?_
                        refine oZ (n77 ?_)
                        refine oH fun n84 q84 => ?_
                        refine W.blockK (by kernel_rfl) (fun K85 n85 s85 o85 q85 p85 => ?_)
                        refine W.s (fun K86 n86 e86 q86 p86 => ?_)
                        refine oG fun n87 => W.r ?_
                        refine oA 100 (.int .i64 t12) ?_
                        refine oA 101 t1 ?_
                        refine oM 102 22 39 hF fun t102 hF => ?_
                        refine oB 103 hF fun t103 hF => ?_
                        refine oV [(1, t1), (2, t2), (7, t7_72), (8, t8_73), (9, t9_74), (11, t11_75), (12, .int .i64 t12), (103, .bool t103)] (n87 ?_)
                        obtain ⟨k90, e90, hF⟩ := lett_some hF
                        have J90 : ∀ (t7_91 : AV) (t8_92 : AV) (h_93 : AHeap), k90 t7_91 t8_92 h_93 = some (rR, hR) → Go w0 m0 (Func.ntmps Try.f6) (K86 .normal) [(1, t1), (2, t2), (7, t7_91), (8, t8_92), (9, t9_74), (11, t11_75), (12, .int .i64 t12)] [] h_93 := by
                          intro t7_91 t8_92 h_93 hF
                          rw [e90] at hF
                          refine n86 ?_
                          refine W.s (fun K94 n94 e94 q94 p94 => ?_)
                          refine oG fun n95 => W.r ?_
                          refine oA 127 (.int .i64 t12) ?_
                          refine oA 128 t2 ?_
                          refine oM 129 22 39 hF fun t129 hF => ?_
                          refine oB 130 hF fun t130 hF => ?_
                          refine oV [(1, t1), (2, t2), (7, t7_91), (8, t8_92), (9, t9_74), (11, t11_75), (12, .int .i64 t12), (130, .bool t130)] (n95 ?_)
                          obtain ⟨k98, e98, hF⟩ := lett_some hF
                          have J98 : ∀ (t9_99 : AV) (t11_100 : AV) (h_101 : AHeap), k98 t9_99 t11_100 h_101 = some (rR, hR) → Go w0 m0 (Func.ntmps Try.f6) (K94 .normal) [(1, t1), (2, t2), (7, t7_91), (8, t8_92), (9, t9_99), (11, t11_100), (12, .int .i64 t12)] [] h_101 := by
                            intro t9_99 t11_100 h_101 hF
                            rw [e98] at hF
                            refine n94 ?_
                            refine W.s (fun K102 n102 e102 q102 p102 => ?_)
                            refine W.r ?_
                            refine oA 154 t7_91 ?_
                            replace hF := outK_some hF; obtain ⟨v155, h_103, e104, hF⟩ := hF
                            replace hF := obind_some hF; obtain ⟨t155, c105, hF⟩ := hF
                            have c105 := avBool_some c105
                            subst c105
                            refine WL.b (some 155) (.bool t155) h_103 e104 ?_
                            refine oA 156 (.bool t155) ?_
                            obtain ⟨j159, e107, hF⟩ := lett_some hF
                            have J108 : ∀ (t159 : Bool) (h_106 : AHeap), j159 t159 h_106 = some (rR, hR) → WL Try.prog w0 m0 (Func.ntmps Try.f6) (Code.ops (Code.p1 (Code.p2 (Code.p2 (Code.p1 (Code.p1 (Code.p2 (Code.p1 (Code.p1 (Code.p2 (Code.p1 (Code.p2 (Code.p2 (Code.p2 (Code.p2 (Code.p2 (Code.p2 (Code.p2 (codeOf Try.f6))))))))))))))))))) 6 K102 [(1, t1), (2, t2), (7, t7_91), (8, t8_92), (9, t9_99), (11, t11_100), (12, .int .i64 t12), (159, .bool t159)] [] h_106 := by
                              intro t159 h_106 hF
                              rw [e107] at hF
                              refine oA 160 (.bool t159) ?_
                              obtain ⟨j163, e110, hF⟩ := lett_some hF
                              have J111 : ∀ (t163 : Bool) (h_109 : AHeap), j163 t163 h_109 = some (rR, hR) → WL Try.prog w0 m0 (Func.ntmps Try.f6) (Code.ops (Code.p1 (Code.p2 (Code.p2 (Code.p1 (Code.p1 (Code.p2 (Code.p1 (Code.p1 (Code.p2 (Code.p1 (Code.p2 (Code.p2 (Code.p2 (Code.p2 (Code.p2 (Code.p2 (Code.p2 (codeOf Try.f6))))))))))))))))))) 10 K102 [(1, t1), (2, t2), (7, t7_91), (8, t8_92), (9, t9_99), (11, t11_100), (12, .int .i64 t12), (163, .bool t163)] [] h_109 := by
                                intro t163 h_109 hF
                                rw [e110] at hF
                                refine oA 164 (.bool t163) ?_
                                obtain ⟨j167, e113, hF⟩ := lett_some hF
                                have J114 : ∀ (t167 : Bool) (h_112 : AHeap), j167 t167 h_112 = some (rR, hR) → WL Try.prog w0 m0 (Func.ntmps Try.f6) (Code.ops (Code.p1 (Code.p2 (Code.p2 (Code.p1 (Code.p1 (Code.p2 (Code.p1 (Code.p1 (Code.p2 (Code.p1 (Code.p2 (Code.p2 (Code.p2 (Code.p2 (Code.p2 (Code.p2 (Code.p2 (codeOf Try.f6))))))))))))))))))) 14 K102 [(1, t1), (2, t2), (7, t7_91), (8, t8_92), (9, t9_99), (11, t11_100), (12, .int .i64 t12), (167, .bool t167)] [] h_112 := by
                                  intro t167 h_112 hF
                                  rw [e113] at hF
                                  refine oV [(1, t1), (2, t2), (7, t7_91), (8, t8_92), (9, t9_99), (11, t11_100), (12, .int .i64 t12), (167, .bool t167)] (n102 ?_)
                                  cases t167 with
                                  | true =>
                                    refine oT hF fun hF => ?_
                                    refine oG fun n115 => W.r ?_
                                    refine oA 6 (.bool false) ?_
                                    refine oV [(6, .bool false)] (n115 (oY (q85 (q84 (q71 (q47 (q45 ?_)))))))
                                    exact lZ hF [.tmp 6] [.bool false] (rT res_nil)
                                  | false =>
                                    refine oU hF fun hF => ?_
                                    refine oZ (n85 (n84 (W.r ?_)))
                                    refine oA 98 (.int .i64 t12) ?_
                                    refine oI 99 .i64 hF fun t99 hF => ?_
                                    refine oA 12 (.int .i64 t99) ?_
                                    refine oV [(1, t1), (2, t2), (7, t7_91), (8, t8_92), (9, t9_99), (11, t11_100), (12, .int .i64 t99)] (n71 ?_)
                                    exact gW _ (ih71 _ _ _ _ _ _ hF)
                                cases t163 with
                                | true =>
                                  replace hF := ifB_t hF
                                  refine WL.o (some 165) ?_
                                  refine WL.o (some 166) ?_
                                  refine oA 167 (.bool true) ?_
                                  exact lW _ (J114 _ _ hF)
                                | false =>
                                  replace hF := ifB_f hF
                                  refine oA 165 t11_100 ?_
                                  replace hF := outK_some hF; obtain ⟨v166, h_117, e118, hF⟩ := hF
                                  replace hF := obind_some hF; obtain ⟨t166, c119, hF⟩ := hF
                                  have c119 := avBool_some c119
                                  subst c119
                                  refine WL.b (some 166) (.bool t166) h_117 e118 ?_
                                  refine oA 167 (.bool t166) ?_
                                  exact lW _ (J114 _ _ hF)
                              cases t159 with
                              | true =>
                                replace hF := ifB_t hF
                                refine WL.o (some 161) ?_
                                refine WL.o (some 162) ?_
                                refine oA 163 (.bool true) ?_
                                exact lW _ (J111 _ _ hF)
                              | false =>
                                replace hF := ifB_f hF
                                refine oA 161 t9_99 ?_
                                replace hF := outK_some hF; obtain ⟨v162, h_120, e121, hF⟩ := hF
                                replace hF := obind_some hF; obtain ⟨t162, c122, hF⟩ := hF
                                have c122 := avBool_some c122
                                subst c122
                                refine WL.b (some 162) (.bool t162) h_120 e121 ?_
                                refine oA 163 (.bool t162) ?_
                                exact lW _ (J111 _ _ hF)
                            cases t155 with
                            | true =>
                              replace hF := ifB_t hF
                              refine WL.o (some 157) ?_
                              refine WL.o (some 158) ?_
                              refine oA 159 (.bool true) ?_
                              exact lW _ (J108 _ _ hF)
                            | false =>
                              replace hF := ifB_f hF
                              refine oA 157 t8_92 ?_
                              replace hF := outK_some hF; obtain ⟨v158, h_123, e124, hF⟩ := hF
                              replace hF := obind_some hF; obtain ⟨t158, c125, hF⟩ := hF
                              have c125 := avBool_some c125
                              subst c125
                              refine WL.b (some 158) (.bool t158) h_123 e124 ?_
                              refine oA 159 (.bool t158) ?_
                              exact lW _ (J108 _ _ hF)
                          cases t130 with
                          | true =>
                            refine oT hF fun hF => ?_
                            refine oG fun n126 => W.r ?_
                            refine oA 132 t11_75 ?_
                            refine oA 133 t2 ?_
                            refine oA 134 (.int .i64 t12) ?_
                            refine oP 135 22 39 .i64 hF fun t135 hF => ?_
                            refine oR 136 39 hF fun t136 hF => ?_
                            refine oC hc (some 137) hF fun r137 h_129 hF => ?_
                            refine oA 131 r137 ?_
                            refine oE 138 hF fun v138 hF => ?_
                            refine oEa 139 hF fun t139 hF => ?_
                            refine oN 18 hF fun h_134 hF => ?_
                            refine oA 17 v138 ?_
                            refine oW 35 (.agg t139) hF fun h_136 hF => ?_
                            refine oV [(1, t1), (2, t2), (7, t7_91), (8, t8_92), (9, t9_74), (12, .int .i64 t12), (17, v138), (18, (newP h_129))] (n126 ?_)
                            refine oG fun n138 => W.r ?_
                            refine oA 141 t9_74 ?_
                            refine oA 142 t2 ?_
                            refine oA 143 (.int .i64 t12) ?_
                            refine oP 144 22 39 .i64 hF fun t144 hF => ?_
                            refine oR 145 39 hF fun t145 hF => ?_
                            refine oC hc (some 146) hF fun r146 h_141 hF => ?_
                            refine oA 140 r146 ?_
                            refine oE 147 hF fun v147 hF => ?_
                            refine oEa 148 hF fun t148 hF => ?_
                            refine oN 20 hF fun h_146 hF => ?_
                            refine oA 19 v147 ?_
                            refine oW 35 (.agg t148) hF fun h_148 hF => ?_
                            refine oV [(1, t1), (2, t2), (7, t7_91), (8, t8_92), (12, .int .i64 t12), (17, v138), (18, (newP h_129)), (19, v147), (20, (newP h_141))] (n138 ?_)
                            refine oG fun n150 => W.r ?_
                            refine oA 149 v138 ?_
                            refine oA 150 v147 ?_
                            refine oA 11 v138 ?_
                            refine oA 9 v147 ?_
                            refine oV [(1, t1), (2, t2), (7, t7_91), (8, t8_92), (9, v147), (11, v138), (12, .int .i64 t12), (18, (newP h_129)), (20, (newP h_141))] (n150 ?_)
                            refine oG fun n151 => W.r ?_
                            refine oR 151 35 hF fun t151 hF => ?_
                            refine oR 152 35 hF fun t152 hF => ?_
                            obtain ⟨t153, e154, hF⟩ := obind_some hF
                            obtain ⟨t153_155, e156, hF⟩ := lett_some hF
                            refine WL.val (d := (some 153)) (v := .bool t153_155) (h' := h_148) (by kernel_rfl) (by kernel_rfl) (val_of AV.bool e156 (Eq.trans (by kernel_rfl) (neq_other (P := Try.prog) (h := h_148) (t := 35) (lit := false) (by kernel_rfl) e154))) ?_
                            refine oV [(1, t1), (2, t2), (7, t7_91), (8, t8_92), (9, v147), (11, v138), (12, .int .i64 t12), (153, .bool t153_155)] (n151 ?_)
                            cases t153_155 with
                            | true =>
                              refine oT hF fun hF => ?_
                              refine oG fun n157 => W.r ?_
                              refine oA 6 (.bool false) ?_
                              refine oV [(6, .bool false)] (n157 (oY (q94 (q85 (q84 (q71 (q47 (q45 ?_))))))))
                              exact lZ hF [.tmp 6] [.bool false] (rT res_nil)
                            | false =>
                              refine oU hF fun hF => ?_
                              refine oZ ?_
                              exact gW _ (J98 _ _ _ hF)
                          | false =>
                            refine oU hF fun hF => ?_
                            refine oZ ?_
                            exact gW _ (J98 _ _ _ hF)
                        cases t103 with
                        | true =>
                          refine oT hF fun hF => ?_
                          refine oG fun n158 => W.r ?_
                          refine oA 105 t7_72 ?_
                          refine oA 106 t1 ?_
                          refine oA 107 (.int .i64 t12) ?_
                          refine oP 108 22 39 .i64 hF fun t108 hF => ?_
                          refine oR 109 39 hF fun t109 hF => ?_
                          refine oC hc (some 110) hF fun r110 h_161 hF => ?_
                          refine oA 104 r110 ?_
                          refine oE 111 hF fun v111 hF => ?_
                          refine oEa 112 hF fun t112 hF => ?_
                          refine oN 14 hF fun h_166 hF => ?_
                          refine oA 13 v111 ?_
                          refine oW 35 (.agg t112) hF fun h_168 hF => ?_
                          refine oV [(1, t1), (2, t2), (8, t8_73), (9, t9_74), (11, t11_75), (12, .int .i64 t12), (13, v111), (14, (newP h_161))] (n158 ?_)
                          refine oG fun n170 => W.r ?_
                          refine oA 114 t8_73 ?_
                          refine oA 115 t1 ?_
                          refine oA 116 (.int .i64 t12) ?_
                          refine oP 117 22 39 .i64 hF fun t117 hF => ?_
                          refine oR 118 39 hF fun t118 hF => ?_
                          refine oC hc (some 119) hF fun r119 h_173 hF => ?_
                          refine oA 113 r119 ?_
                          refine oE 120 hF fun v120 hF => ?_
                          refine oEa 121 hF fun t121 hF => ?_
                          refine oN 16 hF fun h_178 hF => ?_
                          refine oA 15 v120 ?_
                          refine oW 35 (.agg t121) hF fun h_180 hF => ?_
                          refine oV [(1, t1), (2, t2), (9, t9_74), (11, t11_75), (12, .int .i64 t12), (13, v111), (14, (newP h_161)), (15, v120), (16, (newP h_173))] (n170 ?_)
                          refine oG fun n182 => W.r ?_
                          refine oA 122 v111 ?_
                          refine oA 123 v120 ?_
                          refine oA 7 v111 ?_
                          refine oA 8 v120 ?_
                          refine oV [(1, t1), (2, t2), (7, v111), (8, v120), (9, t9_74), (11, t11_75), (12, .int .i64 t12), (14, (newP h_161)), (16, (newP h_173))] (n182 ?_)
                          refine oG fun n183 => W.r ?_
                          refine oR 124 35 hF fun t124 hF => ?_
                          refine oR 125 35 hF fun t125 hF => ?_
                          obtain ⟨t126, e186, hF⟩ := obind_some hF
                          obtain ⟨t126_187, e188, hF⟩ := lett_some hF
                          refine WL.val (d := (some 126)) (v := .bool t126_187) (h' := h_180) (by kernel_rfl) (by kernel_rfl) (val_of AV.bool e188 (Eq.trans (by kernel_rfl) (neq_other (P := Try.prog) (h := h_180) (t := 35) (lit := false) (by kernel_rfl) e186))) ?_
                          refine oV [(1, t1), (2, t2), (7, v111), (8, v120), (9, t9_74), (11, t11_75), (12, .int .i64 t12), (126, .bool t126_187)] (n183 ?_)
                          cases t126_187 with
                          | true =>
                            refine oT hF fun hF => ?_
                            refine oG fun n189 => W.r ?_
                            refine oA 6 (.bool false) ?_
                            refine oV [(6, .bool false)] (n189 (oY (q86 (q85 (q84 (q71 (q47 (q45 ?_))))))))
                            exact lZ hF [.tmp 6] [.bool false] (rT res_nil)
                          | false =>
                            refine oU hF fun hF => ?_
                            refine oZ ?_
                            exact gW _ (J90 _ _ _ hF)
                        | false =>
                          refine oU hF fun hF => ?_
                          refine oZ ?_
                          exact gW _ (J90 _ _ _ hF)
                      | false =>
                        refine oU hF fun hF => ?_
                        refine W.exit (by kernel_rfl) ?_
                        refine e77 (e71 ?_)
                        refine s47 (by kernel_rfl) ?_
                        exact gW _ (J48 _ _ _ _ _ hF)
                    cases t91 with
                    | true =>
                      replace hF := ifB_t hF
                      refine WL.o (some 93) ?_
                      refine WL.o (some 94) ?_
                      refine WL.o (some 95) ?_
                      refine WL.o (some 96) ?_
                      refine oA 97 (.bool true) ?_
                      exact lW _ (J83 _ _ hF)
                    | false =>
                      replace hF := ifB_f hF
                      refine oA 93 (.int .i64 t12) ?_
                      refine oA 94 t2 ?_
                      refine oM 95 22 39 hF fun t95 hF => ?_
                      refine oB 96 hF fun t96 hF => ?_
                      refine oA 97 (.bool t96) ?_
                      exact lW _ (J83 _ _ hF)
                exact gW _ (L71 _ _ _ _ _ _ _ hF)
            cases t82 with
            | true =>
              replace hF := ifB_t hF
              refine WL.o (some 84) ?_
              refine WL.o (some 85) ?_
              refine WL.o (some 86) ?_
              refine oA 87 (.bool true) ?_
              exact lW _ (J43 _ _ hF)
            | false =>
              replace hF := ifB_f hF
              refine oA 84 r80 ?_
              refine oA 85 t7 ?_
              replace hF := outK_some hF; obtain ⟨v86, h_192, e193, hF⟩ := hF
              replace hF := obind_some hF; obtain ⟨t86, c194, hF⟩ := hF
              have c194 := avBool_some c194
              subst c194
              refine WL.b (some 86) (.bool t86) h_192 e193 ?_
              refine oA 87 (.bool t86) ?_
              exact lW _ (J43 _ _ hF)
          refine W.blockK (by kernel_rfl) (fun K30 n30 s30 o30 q30 p30 => ?_)
          refine W.loopK (by kernel_rfl) (fun I195 K195 b195 n195 e195 q195 p195 => ?_)
          have L195 : ∀ (m : Nat) (t7_196 : AV) (t8_197 : AV) (t9_198 : AV) (t10 : Int) (h_199 : AHeap), law05_NetCopies_L1 call t0 k31 m t7_196 t8_197 t9_198 t10 h_199 = some (rR, hR) → Go w0 m0 (Func.ntmps Try.f6) I195 [(0, t0), (1, t1), (2, t2), (7, t7_196), (8, t8_197), (9, t9_198), (10, .int .i64 t10)] [] h_199 := by
            intro m
            induction m with
            | zero => intro t7_196 t8_197 t9_198 t10 h_199 hF; cases hF
            | succ m ih195 =>
              intro t7_196 t8_197 t9_198 t10 h_199 hF
              rw [law05_NetCopies_L1_s] at hF; unfold law05_NetCopies_L1b at hF
              refine b195 ?_
              refine W.s (fun K200 n200 e200 q200 p200 => ?_)
              refine oG fun n201 => W.r ?_
              refine oA 36 (.int .i64 t10) ?_
              refine oA 37 t0 ?_
              refine oM 38 22 39 hF fun t38 hF => ?_
              refine oB 39 hF fun t39 hF => ?_
              refine oV [(0, t0), (1, t1), (2, t2), (7, t7_196), (8, t8_197), (9, t9_198), (10, .int .i64 t10), (39, .bool t39)] (n201 ?_)
              cases t39 with
              | true =>
                refine oT hF fun hF => ?_
                refine oZ (n200 ?_)
                refine oH fun n204 q204 => ?_
                refine W.blockK (by kernel_rfl) (fun K205 n205 s205 o205 q205 p205 => ?_)
                refine oG fun n206 => W.r ?_
                refine oA 43 t7_196 ?_
                refine oA 44 t0 ?_
                refine oA 45 (.int .i64 t10) ?_
                refine oP 46 22 39 .i64 hF fun t46 hF => ?_
                refine oR 47 39 hF fun t47 hF => ?_
                refine oC hc (some 48) hF fun r48 h_209 hF => ?_
                refine oA 42 r48 ?_
                refine oE 49 hF fun v49 hF => ?_
                refine oEa 50 hF fun t50 hF => ?_
                refine oA 7 v49 ?_
                refine oV [(0, t0), (1, t1), (2, t2), (7, v49), (8, t8_197), (9, t9_198), (10, .int .i64 t10)] (n206 ?_)
                refine oG fun n214 => W.r ?_
                refine oA 52 t8_197 ?_
                refine oA 53 t0 ?_
                refine oA 54 (.int .i64 t10) ?_
                refine oP 55 22 39 .i64 hF fun t55 hF => ?_
                refine oR 56 39 hF fun t56 hF => ?_
                refine oC hc (some 57) hF fun r57 h_217 hF => ?_
                refine oA 51 r57 ?_
                refine oE 58 hF fun v58 hF => ?_
                refine oEa 59 hF fun t59 hF => ?_
                refine oA 8 v58 ?_
                refine oV [(0, t0), (1, t1), (2, t2), (7, v49), (8, v58), (9, t9_198), (10, .int .i64 t10)] (n214 ?_)
                refine oG fun n222 => W.r ?_
                refine oA 61 t9_198 ?_
                refine oA 62 t0 ?_
                refine oA 63 (.int .i64 t10) ?_
                refine oP 64 22 39 .i64 hF fun t64 hF => ?_
                refine oR 65 39 hF fun t65 hF => ?_
                refine oC hc (some 66) hF fun r66 h_225 hF => ?_
                refine oA 60 r66 ?_
                refine oE 67 hF fun v67 hF => ?_
                refine oEa 68 hF fun t68 hF => ?_
                refine oA 9 v67 ?_
                refine oV [(0, t0), (1, t1), (2, t2), (7, v49), (8, v58), (9, v67), (10, .int .i64 t10)] (n222 ?_)
                refine W.s (fun K230 n230 e230 q230 p230 => ?_)
                refine W.r ?_
                refine oA 69 v49 ?_
                replace hF := outK_some hF; obtain ⟨v70, h_231, e232, hF⟩ := hF
                replace hF := obind_some hF; obtain ⟨t70, c233, hF⟩ := hF
                have c233 := avBool_some c233
                subst c233
                refine WL.b (some 70) (.bool t70) h_231 e232 ?_
                refine oA 71 (.bool t70) ?_
                obtain ⟨j74, e235, hF⟩ := lett_some hF
                have J236 : ∀ (t74 : Bool) (h_234 : AHeap), j74 t74 h_234 = some (rR, hR) → WL Try.prog w0 m0 (Func.ntmps Try.f6) (Code.ops (Code.p1 (Code.p2 (Code.p2 (Code.p2 (Code.p1 (Code.p1 (Code.p2 (Code.p1 (Code.p1 (Code.p2 (Code.p1 (Code.p2 (Code.p2 (Code.p2 (Code.p2 (codeOf Try.f6))))))))))))))))) 6 K230 [(0, t0), (1, t1), (2, t2), (7, v49), (8, v58), (9, v67), (10, .int .i64 t10), (74, .bool t74)] [] h_234 := by
                  intro t74 h_234 hF
                  rw [e235] at hF
                  refine oA 75 (.bool t74) ?_
                  obtain ⟨j78, e238, hF⟩ := lett_some hF
                  have J239 : ∀ (t78 : Bool) (h_237 : AHeap), j78 t78 h_237 = some (rR, hR) → WL Try.prog w0 m0 (Func.ntmps Try.f6) (Code.ops (Code.p1 (Code.p2 (Code.p2 (Code.p2 (Code.p1 (Code.p1 (Code.p2 (Code.p1 (Code.p1 (Code.p2 (Code.p1 (Code.p2 (Code.p2 (Code.p2 (Code.p2 (codeOf Try.f6))))))))))))))))) 10 K230 [(0, t0), (1, t1), (2, t2), (7, v49), (8, v58), (9, v67), (10, .int .i64 t10), (78, .bool t78)] [] h_237 := by
                    intro t78 h_237 hF
                    rw [e238] at hF
                    refine oV [(0, t0), (1, t1), (2, t2), (7, v49), (8, v58), (9, v67), (10, .int .i64 t10), (78, .bool t78)] (n230 ?_)
                    cases t78 with
                    | true =>
                      refine oT hF fun hF => ?_
                      refine oG fun n240 => W.r ?_
                      refine oA 6 (.bool false) ?_
                      refine oV [(6, .bool false)] (n240 (oY (q205 (q204 (q195 (q30 (q28 ?_)))))))
                      exact lZ hF [.tmp 6] [.bool false] (rT res_nil)
                    | false =>
                      refine oU hF fun hF => ?_
                      refine oZ (n205 (n204 (W.r ?_)))
                      refine oA 40 (.int .i64 t10) ?_
                      refine oI 41 .i64 hF fun t41 hF => ?_
                      refine oA 10 (.int .i64 t41) ?_
                      refine oV [(0, t0), (1, t1), (2, t2), (7, v49), (8, v58), (9, v67), (10, .int .i64 t41)] (n195 ?_)
                      exact gW _ (ih195 _ _ _ _ _ hF)
                  cases t74 with
                  | true =>
                    replace hF := ifB_t hF
                    refine WL.o (some 76) ?_
                    refine WL.o (some 77) ?_
                    refine oA 78 (.bool true) ?_
                    exact lW _ (J239 _ _ hF)
                  | false =>
                    replace hF := ifB_f hF
                    refine oA 76 v67 ?_
                    replace hF := outK_some hF; obtain ⟨v77, h_242, e243, hF⟩ := hF
                    replace hF := obind_some hF; obtain ⟨t77, c244, hF⟩ := hF
                    have c244 := avBool_some c244
                    subst c244
                    refine WL.b (some 77) (.bool t77) h_242 e243 ?_
                    refine oA 78 (.bool t77) ?_
                    exact lW _ (J239 _ _ hF)
                cases t70 with
                | true =>
                  replace hF := ifB_t hF
                  refine WL.o (some 72) ?_
                  refine WL.o (some 73) ?_
                  refine oA 74 (.bool true) ?_
                  exact lW _ (J236 _ _ hF)
                | false =>
                  replace hF := ifB_f hF
                  refine oA 72 v58 ?_
                  replace hF := outK_some hF; obtain ⟨v73, h_245, e246, hF⟩ := hF
                  replace hF := obind_some hF; obtain ⟨t73, c247, hF⟩ := hF
                  have c247 := avBool_some c247
                  subst c247
                  refine WL.b (some 73) (.bool t73) h_245 e246 ?_
                  refine oA 74 (.bool t73) ?_
                  exact lW _ (J236 _ _ hF)
              | false =>
                refine oU hF fun hF => ?_
                refine W.exit (by kernel_rfl) ?_
                refine e200 (e195 ?_)
                refine s30 (by kernel_rfl) ?_
                exact gW _ (J31 _ _ _ _ hF)
          exact gW _ (L195 _ _ _ _ _ _ hF)
      cases t28 with
      | true =>
        replace hF := ifB_t hF
        refine WL.o (some 30) ?_
        refine WL.o (some 31) ?_
        refine oA 32 (.bool true) ?_
        exact lW _ (J19 _ _ hF)
      | false =>
        replace hF := ifB_f hF
        refine oA 30 t2 ?_
        refine oCb hc 31 hF fun t31 h_248 hF => ?_
        refine oA 32 (.bool t31) ?_
        exact lW _ (J19 _ _ hF)
    cases t24 with
    | true =>
      replace hF := ifB_t hF
      refine WL.o (some 26) ?_
      refine WL.o (some 27) ?_
      refine oA 28 (.bool true) ?_
      exact lW _ (J16 _ _ hF)
    | false =>
      replace hF := ifB_f hF
      refine oA 26 t1 ?_
      refine oCb hc 27 hF fun t27 h_251 hF => ?_
      refine oA 28 (.bool t27) ?_
      exact lW _ (J16 _ _ hF)
end Go.Proofs.Ythdkfofkghpmcaa
