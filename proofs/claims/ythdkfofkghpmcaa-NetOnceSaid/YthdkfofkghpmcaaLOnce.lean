/- Plain functions in place of the program's, and that their calls come to what they say. -/
import Derived.Test.YthdkfofkghpmcaaFrame
import Derived.Test.YthdkfofkghpmcaaAbs54
namespace Go.Proofs.Ythdkfofkghpmcaa
open Go.RowKit Abs

noncomputable def law05_NetOnce_L1b (call : CallF) (t0 : AV) (h_16 : AHeap) (k26 : AV → AV → AV → AHeap → R) (self : AV → AV → AV → Int → AHeap → R) (t3_65 : AV) (t4_66 : AV) (t5_67 : AV) (t7 : Int) (h_68 : AHeap) : R :=
  obind (lenL t0) fun t22 =>
  lett (decide (t7 < t22)) fun (t23 : Bool) =>
  ifB t23
  (
    obind (idxP 4 t0 t7) fun t28 =>
    obind (ldRow h_68 4 t28) fun t29 =>
    lett (newH h_68 39 [.int .i64 0, .int .i64 0, .int .i64 0, .str 0 0]) fun h_78 =>
    obind (stRow h_78 4 t29 (newP h_68)) fun h_80 =>
    obind (ldRow h_80 4 (newP h_68)) fun t32 =>
    callN (call 12 [t3_65, .agg t32] h_80) fun r33 h_84 =>
    obind (extT 0 r33) fun v34 =>
    obind (extT 1 r33) fun v35 =>
    obind (avAgg v35) fun t35 =>
    lett (newH h_84 35 [.int .i64 0, .int .i64 0, .int .i64 0, .int .i64 0, .str 0 0, .int .i64 0]) fun h_89 =>
    obind (stRow h_89 6 t35 (newP h_84)) fun h_91 =>
    outK (opBin Try.prog h_91 .eql 25 true (some v34) (some AV.nilp)) fun v38 h_96 =>
    obind (avBool v38) fun t38 =>
    ifB t38
    (
      some (.ret (.bool false), h_96))
    (
      obind (ldCell h_96 (AV.ptr (AHeap.next h_68) 0)) fun v40 =>
      obind (avInt .i64 v40) fun t40 =>
      lett ((t40 : Int) == 1) fun (t42 : Bool) =>
      lett (fun (t4_107 : AV) (t5_108 : AV) (h_109 : AHeap) =>
        lett (IntKind.i64.wrap (t7 + 1)) fun (t25 : Int) =>
        self v34 t4_107 t5_108 t25 h_109) fun k106 =>
      ifB t42
      (
        obind (ldCell h_96 (AV.ptr (AHeap.next h_84) 5)) fun v44 =>
        obind (avInt .i64 v44) fun t44 =>
        lett ((t44 : Int) == 0) fun (t45 : Bool) =>
        lett (fun (t4_116 : AV) (t5_117 : AV) (h_118 : AHeap) =>
          k106 t4_116 t5_117 h_118) fun k115 =>
        ifB t45
        (
          lett (fun (t80 : Bool) (h_122 : AHeap) =>
            ifB t80
            (
              some (.ret (.bool false), h_122))
            (
              obind (ldCell h_122 (AV.ptr (AHeap.next h_84) 0)) fun v83 =>
              obind (avInt .i64 v83) fun t83 =>
              obind (ldCell h_122 (AV.ptr (AHeap.next h_68) 1)) fun v85 =>
              obind (avInt .i64 v85) fun t85 =>
              obind (ldCell h_122 (AV.ptr (AHeap.next h_68) 2)) fun v87 =>
              obind (avInt .i64 v87) fun t87 =>
              obind (ldCell h_122 (AV.ptr (AHeap.next h_68) 3)) fun v89 =>
              obind (avStr v89) fun t89 =>
              outK (bldSl Try.prog h_122 27 1 [(0, .agg ([.int .i64 t83, .int .i64 t85, .int .i64 t87, strA t89] : List AV))]) fun v91 h_133 =>
              outK (opAppend Try.prog h_133 27 27 t4_66 v91) fun v92 h_135 =>
              outK (bldSl Try.prog h_135 48 1 [(0, .bool false)]) fun v94 h_137 =>
              outK (opAppend Try.prog h_137 48 48 t5_67 v94) fun v95 h_139 =>
              k115 v92 v95 h_139)) fun k121 =>
          obind (ldCell h_96 (AV.ptr (AHeap.next h_84) 0)) fun v47 =>
          obind (avInt .i64 v47) fun t47 =>
          obind (lenL t4_66) fun t49 =>
          lett (IntKind.i64.wrap (t49 + 1)) fun (t50 : Int) =>
          lett ((t47 : Int) != t50) fun (t51 : Bool) =>
          ifB t51
          (
            k121 true h_96)
          (
            obind (ldCell h_96 (AV.ptr (AHeap.next h_68) 1)) fun v54 =>
            obind (avInt .i64 v54) fun t54 =>
            lett (decide (t54 < 0)) fun (t55 : Bool) =>
            ifB t55
            (
              k121 true h_96)
            (
              obind (ldCell h_96 (AV.ptr (AHeap.next h_68) 1)) fun v59 =>
              obind (avInt .i64 v59) fun t59 =>
              lett (decide (t59 > 15)) fun (t60 : Bool) =>
              ifB t60
              (
                k121 true h_96)
              (
                obind (ldCell h_96 (AV.ptr (AHeap.next h_68) 2)) fun v64 =>
                obind (avInt .i64 v64) fun t64 =>
                lett (decide (t64 < 0)) fun (t65 : Bool) =>
                ifB t65
                (
                  k121 true h_96)
                (
                  obind (ldCell h_96 (AV.ptr (AHeap.next h_68) 2)) fun v69 =>
                  obind (avInt .i64 v69) fun t69 =>
                  lett (decide (t69 > 15)) fun (t70 : Bool) =>
                  ifB t70
                  (
                    k121 true h_96)
                  (
                    obind (ldCell h_96 (AV.ptr (AHeap.next h_68) 1)) fun v74 =>
                    obind (avInt .i64 v74) fun t74 =>
                    obind (ldCell h_96 (AV.ptr (AHeap.next h_68) 2)) fun v76 =>
                    obind (avInt .i64 v76) fun t76 =>
                    obind (idxA 16 16 (newP h_16) t74) fun t77 =>
                    obind (idxA 16 1 t77 t76) fun t78 =>
                    obind (ldCell h_96 t78) fun v79 =>
                    obind (avBool v79) fun t79 =>
                    k121 t79 h_96))))))
        (
          k115 t4_66 t5_67 h_96))
      (
        lett ((t40 : Int) == 4) fun (t97 : Bool) =>
        lett (fun (t4_169 : AV) (t5_170 : AV) (h_171 : AHeap) =>
          k106 t4_169 t5_170 h_171) fun k168 =>
        ifB t97
        (
          obind (ldCell h_96 (AV.ptr (AHeap.next h_84) 5)) fun v99 =>
          obind (avInt .i64 v99) fun t99 =>
          lett ((t99 : Int) == 0) fun (t100 : Bool) =>
          lett (fun (t4_177 : AV) (t5_178 : AV) (h_179 : AHeap) =>
            k168 t4_177 t5_178 h_179) fun k176 =>
          ifB t100
          (
            obind (ldCell h_96 (AV.ptr (AHeap.next h_84) 0)) fun v102 =>
            obind (avInt .i64 v102) fun t102 =>
            obind (lenL t4_66) fun t104 =>
            lett (IntKind.i64.wrap (t104 + 1)) fun (t105 : Int) =>
            lett ((t102 : Int) != t105) fun (t106 : Bool) =>
            lett (fun (t111 : Bool) (h_187 : AHeap) =>
              lett (fun (t118 : Bool) (h_190 : AHeap) =>
                lett (fun (t126 : Bool) (h_193 : AHeap) =>
                  ifB t126
                  (
                    some (.ret (.bool false), h_193))
                  (
                    obind (ldCell h_193 (AV.ptr (AHeap.next h_68) 1)) fun v129 =>
                    obind (avInt .i64 v129) fun t129 =>
                    lett (IntKind.i64.wrap (t129 - 1)) fun (t130 : Int) =>
                    obind (idxP 4 t4_66 t130) fun t131 =>
                    obind (ldRow h_193 4 t131) fun t132 =>
                    lett (newH h_193 32 [.int .i64 0, .int .i64 0, .int .i64 0, .str 0 0]) fun h_203 =>
                    obind (stRow h_203 4 t132 (newP h_193)) fun h_205 =>
                    obind (ldCell h_205 (AV.ptr (AHeap.next h_84) 0)) fun v134 =>
                    obind (avInt .i64 v134) fun t134 =>
                    obind (stRow h_205 1 [.int .i64 t134] (AV.ptr (AHeap.next h_193) 0)) fun h_210 =>
                    obind (ldRow h_210 4 (newP h_193)) fun t137 =>
                    outK (bldSl Try.prog h_210 27 1 [(0, .agg t137)]) fun v138 h_214 =>
                    outK (opAppend Try.prog h_214 27 27 t4_66 v138) fun v139 h_216 =>
                    outK (bldSl Try.prog h_216 48 1 [(0, .bool false)]) fun v141 h_218 =>
                    outK (opAppend Try.prog h_218 48 48 t5_67 v141) fun v142 h_220 =>
                    k176 v139 v142 h_220)) fun j126 =>
                ifB t118
                (
                  j126 true h_190)
                (
                  obind (ldCell h_190 (AV.ptr (AHeap.next h_68) 1)) fun v122 =>
                  obind (avInt .i64 v122) fun t122 =>
                  lett (IntKind.i64.wrap (t122 - 1)) fun (t123 : Int) =>
                  obind (idxP 1 t5_67 t123) fun t124 =>
                  obind (ldCell h_190 t124) fun v125 =>
                  obind (avBool v125) fun t125 =>
                  j126 t125 h_190)) fun j118 =>
              ifB t111
              (
                j118 true h_187)
              (
                obind (ldCell h_187 (AV.ptr (AHeap.next h_68) 1)) fun v114 =>
                obind (avInt .i64 v114) fun t114 =>
                obind (lenL t4_66) fun t116 =>
                lett (decide (t114 > t116)) fun (t117 : Bool) =>
                j118 t117 h_187)) fun j111 =>
            ifB t106
            (
              j111 true h_96)
            (
              obind (ldCell h_96 (AV.ptr (AHeap.next h_68) 1)) fun v109 =>
              obind (avInt .i64 v109) fun t109 =>
              lett (decide (t109 < 1)) fun (t110 : Bool) =>
              j111 t110 h_96))
          (
            k176 t4_66 t5_67 h_96))
        (
          lett ((t40 : Int) == 2) fun (t144 : Bool) =>
          lett (fun (t143 : Bool) (h_239 : AHeap) =>
            lett (fun  (h_241 : AHeap) =>
              k168 t4_66 t5_67 h_241) fun k240 =>
            ifB t143
            (
              obind (ldCell h_239 (AV.ptr (AHeap.next h_68) 1)) fun v147 =>
              obind (avInt .i64 v147) fun t147 =>
              lett (decide (t147 ≥ 1)) fun (t148 : Bool) =>
              lett (fun (t155 : Bool) (h_246 : AHeap) =>
                lett (fun (t164 : Bool) (h_249 : AHeap) =>
                  obind (ldCell h_249 (AV.ptr (AHeap.next h_84) 5)) fun v166 =>
                  obind (avInt .i64 v166) fun t166 =>
                  lett ((t166 : Int) == 0) fun (t167 : Bool) =>
                  lett (!((t167 : Bool) == t164)) fun (t169 : Bool) =>
                  ifB t169
                  (
                    some (.ret (.bool false), h_249))
                  (
                    lett (fun  (h_261 : AHeap) =>
                      k240 h_261) fun k260 =>
                    ifB t164
                    (
                      obind (ldCell h_249 (AV.ptr (AHeap.next h_68) 1)) fun v173 =>
                      obind (avInt .i64 v173) fun t173 =>
                      lett (IntKind.i64.wrap (t173 - 1)) fun (t174 : Int) =>
                      obind (idxP 1 t5_67 t174) fun t175 =>
                      obind (stRow h_249 1 [.bool true] t175) fun h_267 =>
                      lett (fun (t189 : Bool) (h_271 : AHeap) =>
                        ifB t189
                        (
                          some (.ret (.bool false), h_271))
                        (
                          k260 h_271)) fun k270 =>
                      obind (ldCell h_267 (AV.ptr (AHeap.next h_68) 0)) fun v177 =>
                      obind (avInt .i64 v177) fun t177 =>
                      lett ((t177 : Int) == 2) fun (t178 : Bool) =>
                      ifB t178
                      (
                        obind (ldRow h_267 4 (AV.ptr (AHeap.next h_84) 1)) fun t181 =>
                        obind (ldCell h_267 (AV.ptr (AHeap.next h_68) 1)) fun v184 =>
                        obind (avInt .i64 v184) fun t184 =>
                        lett (IntKind.i64.wrap (t184 - 1)) fun (t185 : Int) =>
                        obind (idxP 4 t4_66 t185) fun t186 =>
                        obind (ldRow h_267 4 t186) fun t187 =>
                        obind (eqOther Try.prog 32 (.agg t181) (.agg t187)) fun t188 =>
                        lett (!t188) fun (t188_283 : Bool) =>
                        k270 t188_283 h_267)
                      (
                        k270 false h_267))
                    (
                      k260 h_249))) fun j164 =>
                ifB t155
                (
                  obind (ldCell h_246 (AV.ptr (AHeap.next h_68) 1)) fun v159 =>
                  obind (avInt .i64 v159) fun t159 =>
                  lett (IntKind.i64.wrap (t159 - 1)) fun (t160 : Int) =>
                  obind (idxP 1 t5_67 t160) fun t161 =>
                  obind (ldCell h_246 t161) fun v162 =>
                  obind (avBool v162) fun t162 =>
                  lett (!t162) fun (t163 : Bool) =>
                  j164 t163 h_246)
                (
                  j164 false h_246)) fun j155 =>
              ifB t148
              (
                obind (ldCell h_239 (AV.ptr (AHeap.next h_68) 1)) fun v151 =>
                obind (avInt .i64 v151) fun t151 =>
                obind (lenL t4_66) fun t153 =>
                lett (decide (t151 ≤ t153)) fun (t154 : Bool) =>
                j155 t154 h_239)
              (
                j155 false h_239))
            (
              lett ((t40 : Int) == 5) fun (t191 : Bool) =>
              lett (fun (t190 : Bool) (h_300 : AHeap) =>
                lett (fun  (h_302 : AHeap) =>
                  k240 h_302) fun k301 =>
                ifB t190
                (
                  obind (ldCell h_300 (AV.ptr (AHeap.next h_84) 5)) fun v194 =>
                  obind (avInt .i64 v194) fun t194 =>
                  lett ((t194 : Int) == 0) fun (t195 : Bool) =>
                  lett (fun  (h_308 : AHeap) =>
                    k301 h_308) fun k307 =>
                  ifB t195
                  (
                    obind (ldCell h_300 (AV.ptr (AHeap.next h_68) 1)) fun v197 =>
                    obind (avInt .i64 v197) fun t197 =>
                    lett (decide (t197 < 0)) fun (t198 : Bool) =>
                    lett (fun (t203 : Bool) (h_314 : AHeap) =>
                      lett (fun (t208 : Bool) (h_317 : AHeap) =>
                        lett (fun (t213 : Bool) (h_320 : AHeap) =>
                          lett (fun (t220 : Bool) (h_323 : AHeap) =>
                            ifB t220
                            (
                              some (.ret (.bool false), h_323))
                            (
                              obind (ldCell h_323 (AV.ptr (AHeap.next h_68) 1)) fun v222 =>
                              obind (avInt .i64 v222) fun t222 =>
                              obind (ldCell h_323 (AV.ptr (AHeap.next h_68) 2)) fun v224 =>
                              obind (avInt .i64 v224) fun t224 =>
                              obind (ldCell h_323 (AV.ptr (AHeap.next h_68) 0)) fun v226 =>
                              obind (avInt .i64 v226) fun t226 =>
                              lett ((t226 : Int) == 5) fun (t227 : Bool) =>
                              obind (idxA 16 16 (newP h_16) t222) fun t228 =>
                              obind (idxA 16 1 t228 t224) fun t229 =>
                              obind (stRow h_323 1 [.bool t227] t229) fun h_337 =>
                              obind (ldCell h_337 (AV.ptr (AHeap.next h_68) 2)) fun v231 =>
                              obind (avInt .i64 v231) fun t231 =>
                              obind (ldCell h_337 (AV.ptr (AHeap.next h_68) 1)) fun v233 =>
                              obind (avInt .i64 v233) fun t233 =>
                              obind (ldCell h_337 (AV.ptr (AHeap.next h_68) 0)) fun v235 =>
                              obind (avInt .i64 v235) fun t235 =>
                              lett ((t235 : Int) == 5) fun (t236 : Bool) =>
                              obind (idxA 16 16 (newP h_16) t231) fun t237 =>
                              obind (idxA 16 1 t237 t233) fun t238 =>
                              obind (stRow h_337 1 [.bool t236] t238) fun h_348 =>
                              k307 h_348)) fun j220 =>
                          ifB t213
                          (
                            j220 true h_320)
                          (
                            obind (ldCell h_320 (AV.ptr (AHeap.next h_68) 1)) fun v216 =>
                            obind (avInt .i64 v216) fun t216 =>
                            obind (ldCell h_320 (AV.ptr (AHeap.next h_68) 2)) fun v218 =>
                            obind (avInt .i64 v218) fun t218 =>
                            lett ((t216 : Int) == t218) fun (t219 : Bool) =>
                            j220 t219 h_320)) fun j213 =>
                        ifB t208
                        (
                          j213 true h_317)
                        (
                          obind (ldCell h_317 (AV.ptr (AHeap.next h_68) 2)) fun v211 =>
                          obind (avInt .i64 v211) fun t211 =>
                          lett (decide (t211 > 15)) fun (t212 : Bool) =>
                          j213 t212 h_317)) fun j208 =>
                      ifB t203
                      (
                        j208 true h_314)
                      (
                        obind (ldCell h_314 (AV.ptr (AHeap.next h_68) 2)) fun v206 =>
                        obind (avInt .i64 v206) fun t206 =>
                        lett (decide (t206 < 0)) fun (t207 : Bool) =>
                        j208 t207 h_314)) fun j203 =>
                    ifB t198
                    (
                      j203 true h_300)
                    (
                      obind (ldCell h_300 (AV.ptr (AHeap.next h_68) 1)) fun v201 =>
                      obind (avInt .i64 v201) fun t201 =>
                      lett (decide (t201 > 15)) fun (t202 : Bool) =>
                      j203 t202 h_300))
                  (
                    k307 h_300))
                (
                  k301 h_300)) fun k299 =>
              ifB t191
              (
                k299 true h_239)
              (
                lett ((t40 : Int) == 6) fun (t192 : Bool) =>
                k299 t192 h_239))) fun k238 =>
          ifB t144
          (
            k238 true h_96)
          (
            lett ((t40 : Int) == 3) fun (t145 : Bool) =>
            k238 t145 h_96)))))
  (
    k26 t3_65 t4_66 t5_67 h_68)
noncomputable def law05_NetOnce_L1 (call : CallF) (t0 : AV) (h_16 : AHeap) (k26 : AV → AV → AV → AHeap → R) : Nat → AV → AV → AV → Int → AHeap → R := iterR (fun _ _ _ _ _ => none) (law05_NetOnce_L1b call t0 h_16 k26)
theorem law05_NetOnce_L1_s (call : CallF) (t0 : AV) (h_16 : AHeap) (k26 : AV → AV → AV → AHeap → R) (m : Nat) : law05_NetOnce_L1 call t0 h_16 k26 (m + 1) = law05_NetOnce_L1b call t0 h_16 k26 (law05_NetOnce_L1 call t0 h_16 k26 m) := rfl
noncomputable def law05_NetOnce_L0b (t4 : AV) (t5 : AV) (k32 : AV → AHeap → R) (self : AV → Int → AHeap → R) (t13_41 : AV) (t14 : Int) (h_42 : AHeap) : R :=
  obind (lenL t4) fun t241 =>
  lett (decide (t14 < t241)) fun (t242 : Bool) =>
  ifB t242
  (
    obind (idxP 1 t5 t14) fun t247 =>
    obind (ldCell h_42 t247) fun v248 =>
    obind (avBool v248) fun t248 =>
    lett (!t248) fun (t249 : Bool) =>
    lett (fun (t13_55 : AV) (h_56 : AHeap) =>
      lett (IntKind.i64.wrap (t14 + 1)) fun (t244 : Int) =>
      self t13_55 t244 h_56) fun k54 =>
    ifB t249
    (
      obind (idxP 4 t4 t14) fun t253 =>
      obind (ldRow h_42 4 t253) fun t254 =>
      outK (bldSl Try.prog h_42 27 1 [(0, .agg t254)]) fun v255 h_60 =>
      outK (opAppend Try.prog h_60 27 27 t13_41 v255) fun v256 h_62 =>
      k54 v256 h_62)
    (
      k54 t13_41 h_42))
  (
    k32 t13_41 h_42)
noncomputable def law05_NetOnce_L0 (t4 : AV) (t5 : AV) (k32 : AV → AHeap → R) : Nat → AV → Int → AHeap → R := iterR (fun _ _ _ => none) (law05_NetOnce_L0b t4 t5 k32)
theorem law05_NetOnce_L0_s (t4 : AV) (t5 : AV) (k32 : AV → AHeap → R) (m : Nat) : law05_NetOnce_L0 t4 t5 k32 (m + 1) = law05_NetOnce_L0b t4 t5 k32 (law05_NetOnce_L0 t4 t5 k32 m) := rfl
noncomputable def law05_NetOnce (call : CallF) (n : Nat) (t0 : AV) (h : AHeap) : R :=
  callN (call 9 [] h) fun r15 h_4 =>
  obind (avBool r15) fun t15 =>
  lett (!t15) fun (t16 : Bool) =>
  ifB t16
  (
    some (.ret (.bool false), h_4))
  (
    callN (call 10 [t0] h_4) fun r18 h_11 =>
    obind (avBool r18) fun t18 =>
    ifB t18
    (
      some (.ret (.bool true), h_11))
    (
      callN (call 11 [] h_11) fun r19 h_16 =>
      lett (newH h_16 50 [.bool false, .bool false, .bool false, .bool false, .bool false, .bool false, .bool false, .bool false, .bool false, .bool false, .bool false, .bool false, .bool false, .bool false, .bool false, .bool false, .bool false, .bool false, .bool false, .bool false, .bool false, .bool false, .bool false, .bool false, .bool false, .bool false, .bool false, .bool false, .bool false, .bool false, .bool false, .bool false, .bool false, .bool false, .bool false, .bool false, .bool false, .bool false, .bool false, .bool false, .bool false, .bool false, .bool false, .bool false, .bool false, .bool false, .bool false, .bool false, .bool false, .bool false, .bool false, .bool false, .bool false, .bool false, .bool false, .bool false, .bool false, .bool false, .bool false, .bool false, .bool false, .bool false, .bool false, .bool false, .bool false, .bool false, .bool false, .bool false, .bool false, .bool false, .bool false, .bool false, .bool false, .bool false, .bool false, .bool false, .bool false, .bool false, .bool false, .bool false, .bool false, .bool false, .bool false, .bool false, .bool false, .bool false, .bool false, .bool false, .bool false, .bool false, .bool false, .bool false, .bool false, .bool false, .bool false, .bool false, .bool false, .bool false, .bool false, .bool false, .bool false, .bool false, .bool false, .bool false, .bool false, .bool false, .bool false, .bool false, .bool false, .bool false, .bool false, .bool false, .bool false, .bool false, .bool false, .bool false, .bool false, .bool false, .bool false, .bool false, .bool false, .bool false, .bool false, .bool false, .bool false, .bool false, .bool false, .bool false, .bool false, .bool false, .bool false, .bool false, .bool false, .bool false, .bool false, .bool false, .bool false, .bool false, .bool false, .bool false, .bool false, .bool false, .bool false, .bool false, .bool false, .bool false, .bool false, .bool false, .bool false, .bool false, .bool false, .bool false, .bool false, .bool false, .bool false, .bool false, .bool false, .bool false, .bool false, .bool false, .bool false, .bool false, .bool false, .bool false, .bool false, .bool false, .bool false, .bool false, .bool false, .bool false, .bool false, .bool false, .bool false, .bool false, .bool false, .bool false, .bool false, .bool false, .bool false, .bool false, .bool false, .bool false, .bool false, .bool false, .bool false, .bool false, .bool false, .bool false, .bool false, .bool false, .bool false, .bool false, .bool false, .bool false, .bool false, .bool false, .bool false, .bool false, .bool false, .bool false, .bool false, .bool false, .bool false, .bool false, .bool false, .bool false, .bool false, .bool false, .bool false, .bool false, .bool false, .bool false, .bool false, .bool false, .bool false, .bool false, .bool false, .bool false, .bool false, .bool false, .bool false, .bool false, .bool false, .bool false, .bool false, .bool false, .bool false, .bool false, .bool false, .bool false, .bool false, .bool false, .bool false, .bool false, .bool false, .bool false, .bool false, .bool false, .bool false, .bool false, .bool false, .bool false, .bool false, .bool false, .bool false, .bool false, .bool false, .bool false, .bool false, .bool false, .bool false, .bool false, .bool false, .bool false, .bool false, .bool false]) fun h_21 =>
      lett (fun (t3 : AV) (t4 : AV) (t5 : AV) (h_27 : AHeap) =>
        lett (fun (t13 : AV) (h_33 : AHeap) =>
          callN (call 15 [t3] h_33) fun r258 h_35 =>
          callN (call 14 [r258, t13] h_35) fun r260 h_37 =>
          obind (avBool r260) fun t260 =>
          some (.ret (.bool t260), h_37)) fun k32 =>
        law05_NetOnce_L0 t4 t5 k32 n AV.nsl 0 h_27) fun k26 =>
      law05_NetOnce_L1 call t0 h_16 k26 n r19 AV.nsl AV.nsl 0 h_21))
set_option maxHeartbeats 4000000 in
set_option maxRecDepth 20000 in
theorem law05_NetOnce_ok {call : CallF} (hc : SaysAll Try.prog call) {n : Nat} {t0 : AV} {h : AHeap} {rR : ARes} {hR : AHeap} (hF : law05_NetOnce call n t0 h = some (rR, hR)) : Says Try.prog 5 [t0] h rR hR := by
  unfold law05_NetOnce at hF
  refine sO Try.func5 fun w0 m0 => ?_
  refine wW [(0, t0)] ?_
  refine oG fun n1 => W.r ?_
  refine oA 2 (.bool false) ?_
  refine oV [(0, t0)] (n1 ?_)
  refine oH fun n2 q2 => ?_
  refine oG fun n3 => W.r ?_
  refine oCb hc 15 hF fun t15 h_4 hF => ?_
  refine oB 16 hF fun t16 hF => ?_
  refine oV [(0, t0), (16, .bool t16)] (n3 ?_)
  cases t16 with
  | true =>
    refine oT hF fun hF => ?_
    refine oG fun n8 => W.r ?_
    refine oA 2 (.bool false) ?_
    refine oV [(2, .bool false)] (n8 (oY (q2 ?_)))
    exact lZ hF [.tmp 2] [.bool false] (rT res_nil)
  | false =>
    refine oU hF fun hF => ?_
    refine oZ (n2 ?_)
    refine oH fun n9 q9 => ?_
    refine oG fun n10 => W.r ?_
    refine oA 17 t0 ?_
    refine oCb hc 18 hF fun t18 h_11 hF => ?_
    refine oV [(0, t0), (18, .bool t18)] (n10 ?_)
    cases t18 with
    | true =>
      refine oT hF fun hF => ?_
      refine oG fun n14 => W.r ?_
      refine oA 2 (.bool true) ?_
      refine oV [(2, .bool true)] (n14 (oY (q9 ?_)))
      exact lZ hF [.tmp 2] [.bool true] (rT res_nil)
    | false =>
      refine oU hF fun hF => ?_
      refine oZ (n9 ?_)
      refine oG fun n15 => W.r ?_
      refine oC hc (some 19) hF fun r19 h_16 hF => ?_
      refine oA 3 r19 ?_
      refine oV [(0, t0), (3, r19)] (n15 ?_)
      refine oG fun n18 => W.r ?_
      refine oA 4 AV.nsl ?_
      refine oV [(0, t0), (3, r19), (4, AV.nsl)] (n18 ?_)
      refine oG fun n19 => W.r ?_
      refine oA 5 AV.nsl ?_
      refine oV [(0, t0), (3, r19), (4, AV.nsl), (5, AV.nsl)] (n19 ?_)
      refine oG fun n20 => W.r ?_
      refine oN 6 hF fun h_21 hF => ?_
      refine oV [(0, t0), (3, r19), (4, AV.nsl), (5, AV.nsl), (6, (newP h_16))] (n20 ?_)
      refine W.s (fun K23 n23 e23 q23 p23 => ?_)
      refine oG fun n24 => W.r ?_
      refine oA 7 (.int .i64 0) ?_
      refine oV [(0, t0), (3, r19), (4, AV.nsl), (5, AV.nsl), (6, (newP h_16)), (7, .int .i64 0)] (n24 ?_)
      obtain ⟨k26, e26, hF⟩ := lett_some hF
      have J26 : ∀ (t3 : AV) (t4 : AV) (t5 : AV) (h_27 : AHeap), k26 t3 t4 t5 h_27 = some (rR, hR) → Go w0 m0 (Func.ntmps Try.f5) (K23 .normal) [(3, t3), (4, t4), (5, t5)] [] h_27 := by
        intro t3 t4 t5 h_27 hF
        rw [e26] at hF
        refine n23 ?_
        refine oG fun n28 => W.r ?_
        refine oA 13 AV.nsl ?_
        refine oV [(3, t3), (4, t4), (5, t5), (13, AV.nsl)] (n28 ?_)
        refine W.s (fun K29 n29 e29 q29 p29 => ?_)
        refine oG fun n30 => W.r ?_
        refine oA 14 (.int .i64 0) ?_
        refine oV [(3, t3), (4, t4), (5, t5), (13, AV.nsl), (14, .int .i64 0)] (n30 ?_)
        obtain ⟨k32, e32, hF⟩ := lett_some hF
        have J32 : ∀ (t13 : AV) (h_33 : AHeap), k32 t13 h_33 = some (rR, hR) → Go w0 m0 (Func.ntmps Try.f5) (K29 .normal) [(3, t3), (13, t13)] [] h_33 := by
          intro t13 h_33 hF
          rw [e32] at hF
          refine n29 ?_
          refine oG fun n34 => W.r ?_
          refine oA 257 t3 ?_
          refine oC hc (some 258) hF fun r258 h_35 hF => ?_
          refine oA 259 t13 ?_
          refine oCb hc 260 hF fun t260 h_37 hF => ?_
          refine oA 2 (.bool t260) ?_
          refine oV [(2, .bool t260)] (n34 (oY ?_))
          exact lZ hF [.tmp 2] [.bool t260] (rT res_nil)
        refine W.blockK (by kernel_rfl) (fun K31 n31 s31 o31 q31 p31 => ?_)
        refine W.loopK (by kernel_rfl) (fun I40 K40 b40 n40 e40 q40 p40 => ?_)
        have L40 : ∀ (m : Nat) (t13_41 : AV) (t14 : Int) (h_42 : AHeap), law05_NetOnce_L0 t4 t5 k32 m t13_41 t14 h_42 = some (rR, hR) → Go w0 m0 (Func.ntmps Try.f5) I40 [(3, t3), (4, t4), (5, t5), (13, t13_41), (14, .int .i64 t14)] [] h_42 := by
          intro m
          induction m with
          | zero => intro t13_41 t14 h_42 hF; cases hF
          | succ m ih40 =>
            intro t13_41 t14 h_42 hF
            rw [law05_NetOnce_L0_s] at hF; unfold law05_NetOnce_L0b at hF
            refine b40 ?_
            refine W.s (fun K43 n43 e43 q43 p43 => ?_)
            refine oG fun n44 => W.r ?_
            refine oA 239 (.int .i64 t14) ?_
            refine oA 240 t4 ?_
            refine oM 241 27 32 hF fun t241 hF => ?_
            refine oB 242 hF fun t242 hF => ?_
            refine oV [(3, t3), (4, t4), (5, t5), (13, t13_41), (14, .int .i64 t14), (242, .bool t242)] (n44 ?_)
            cases t242 with
            | true =>
              refine oT hF fun hF => ?_
              refine oZ (n43 ?_)
              refine oG fun n47 => ?_
              refine W.blockK (by kernel_rfl) (fun K48 n48 s48 o48 q48 p48 => ?_)
              refine oG fun n49 => W.r ?_
              refine oA 245 t5 ?_
              refine oA 246 (.int .i64 t14) ?_
              refine oP 247 48 4 .i64 hF fun t247 hF => ?_
              refine oLb 248 4 hF fun t248 hF => ?_
              refine oB 249 hF fun t249 hF => ?_
              refine oV [(3, t3), (4, t4), (5, t5), (13, t13_41), (14, .int .i64 t14), (249, .bool t249)] (n49 ?_)
              obtain ⟨k54, e54, hF⟩ := lett_some hF
              have J54 : ∀ (t13_55 : AV) (h_56 : AHeap), k54 t13_55 h_56 = some (rR, hR) → Go w0 m0 (Func.ntmps Try.f5) (K48 .normal) [(3, t3), (4, t4), (5, t5), (13, t13_55), (14, .int .i64 t14)] [] h_56 := by
                intro t13_55 h_56 hF
                rw [e54] at hF
                refine n48 (n47 (W.r ?_))
                refine oA 243 (.int .i64 t14) ?_
                refine oI 244 .i64 hF fun t244 hF => ?_
                refine oA 14 (.int .i64 t244) ?_
                refine oV [(3, t3), (4, t4), (5, t5), (13, t13_55), (14, .int .i64 t244)] (n40 ?_)
                exact gW _ (ih40 _ _ _ hF)
              cases t249 with
              | true =>
                refine oT hF fun hF => ?_
                refine W.r ?_
                refine oA 250 t13_41 ?_
                refine oA 251 t4 ?_
                refine oA 252 (.int .i64 t14) ?_
                refine oP 253 27 32 .i64 hF fun t253 hF => ?_
                refine oR 254 32 hF fun t254 hF => ?_
                refine oK 255 hF fun v255 h_60 hF => ?_
                refine oK 256 hF fun v256 h_62 hF => ?_
                refine oA 13 v256 ?_
                refine oV [(3, t3), (4, t4), (5, t5), (13, v256), (14, .int .i64 t14)] ?_
                exact gW _ (J54 _ _ hF)
              | false =>
                refine oU hF fun hF => ?_
                refine oZ ?_
                exact gW _ (J54 _ _ hF)
            | false =>
              refine oU hF fun hF => ?_
              refine W.exit (by kernel_rfl) ?_
              refine e43 (e40 ?_)
              refine s31 (by kernel_rfl) ?_
              exact gW _ (J32 _ _ hF)
        exact gW _ (L40 _ _ _ _ hF)
      refine W.blockK (by kernel_rfl) (fun K25 n25 s25 o25 q25 p25 => ?_)
      refine W.loopK (by kernel_rfl) (fun I64 K64 b64 n64 e64 q64 p64 => ?_)
      have L64 : ∀ (m : Nat) (t3_65 : AV) (t4_66 : AV) (t5_67 : AV) (t7 : Int) (h_68 : AHeap), law05_NetOnce_L1 call t0 h_16 k26 m t3_65 t4_66 t5_67 t7 h_68 = some (rR, hR) → Go w0 m0 (Func.ntmps Try.f5) I64 [(0, t0), (3, t3_65), (4, t4_66), (5, t5_67), (6, (newP h_16)), (7, .int .i64 t7)] [] h_68 := by
        intro m
        induction m with
        | zero => intro t3_65 t4_66 t5_67 t7 h_68 hF; cases hF
        | succ m ih64 =>
          intro t3_65 t4_66 t5_67 t7 h_68 hF
          rw [law05_NetOnce_L1_s] at hF; unfold law05_NetOnce_L1b at hF
          refine b64 ?_
          refine W.s (fun K69 n69 e69 q69 p69 => ?_)
          refine oG fun n70 => W.r ?_
          refine oA 20 (.int .i64 t7) ?_
          refine oA 21 t0 ?_
          refine oM 22 22 39 hF fun t22 hF => ?_
          refine oB 23 hF fun t23 hF => ?_
          refine oV [(0, t0), (3, t3_65), (4, t4_66), (5, t5_67), (6, (newP h_16)), (7, .int .i64 t7), (23, .bool t23)] (n70 ?_)
          cases t23 with
          | true =>
            refine oT hF fun hF => ?_
            refine oZ (n69 ?_)
            refine oH fun n73 q73 => ?_
            refine W.blockK (by kernel_rfl) (fun K74 n74 s74 o74 q74 p74 => ?_)
            refine oG fun n75 => W.r ?_
            refine oA 26 t0 ?_
            refine oA 27 (.int .i64 t7) ?_
            refine oP 28 22 39 .i64 hF fun t28 hF => ?_
            refine oR 29 39 hF fun t29 hF => ?_
            refine oN 8 hF fun h_78 hF => ?_
            refine oW 39 (.agg t29) hF fun h_80 hF => ?_
            refine oV [(0, t0), (3, t3_65), (4, t4_66), (5, t5_67), (6, (newP h_16)), (7, .int .i64 t7), (8, (newP h_68))] (n75 ?_)
            refine oG fun n82 => W.r ?_
            refine oA 31 t3_65 ?_
            refine oR 32 39 hF fun t32 hF => ?_
            refine oC hc (some 33) hF fun r33 h_84 hF => ?_
            refine oA 30 r33 ?_
            refine oE 34 hF fun v34 hF => ?_
            refine oEa 35 hF fun t35 hF => ?_
            refine oN 10 hF fun h_89 hF => ?_
            refine oA 9 v34 ?_
            refine oW 35 (.agg t35) hF fun h_91 hF => ?_
            refine oV [(0, t0), (4, t4_66), (5, t5_67), (6, (newP h_16)), (7, .int .i64 t7), (8, (newP h_68)), (9, v34), (10, (newP h_84))] (n82 ?_)
            refine oG fun n93 => W.r ?_
            refine oA 36 v34 ?_
            refine oA 3 v34 ?_
            refine oV [(0, t0), (3, v34), (4, t4_66), (5, t5_67), (6, (newP h_16)), (7, .int .i64 t7), (8, (newP h_68)), (10, (newP h_84))] (n93 ?_)
            refine oH fun n94 q94 => ?_
            refine oG fun n95 => W.r ?_
            refine oA 37 v34 ?_
            replace hF := outK_some hF; obtain ⟨v38, h_96, e97, hF⟩ := hF
            replace hF := obind_some hF; obtain ⟨t38, c98, hF⟩ := hF
            have c98 := avBool_some c98
            subst c98
            refine WL.b (some 38) (.bool t38) h_96 e97 ?_
            refine oV [(0, t0), (3, v34), (4, t4_66), (5, t5_67), (6, (newP h_16)), (7, .int .i64 t7), (8, (newP h_68)), (10, (newP h_84)), (38, .bool t38)] (n95 ?_)
            cases t38 with
            | true =>
              refine oT hF fun hF => ?_
              refine oG fun n99 => W.r ?_
              refine oA 2 (.bool false) ?_
              refine oV [(2, .bool false)] (n99 (oY (q94 (q74 (q73 (q64 (q25 (q23 ?_))))))))
              exact lZ hF [.tmp 2] [.bool false] (rT res_nil)
            | false =>
              refine oU hF fun hF => ?_
              refine oZ (n94 ?_)
              refine oG fun n100 => W.r ?_
              refine oA 39 (AV.ptr (AHeap.next h_68) 0) ?_
              refine oLi 40 3 hF fun t40 hF => ?_
              refine oV [(0, t0), (3, v34), (4, t4_66), (5, t5_67), (6, (newP h_16)), (7, .int .i64 t7), (8, (newP h_68)), (10, (newP h_84)), (40, .int .i64 t40)] (n100 ?_)
              refine W.blockK (by kernel_rfl) (fun K103 n103 s103 o103 q103 p103 => ?_)
              refine oG fun n104 => W.r ?_
              refine oB 42 hF fun t42 hF => ?_
              refine oA 41 (.bool t42) ?_
              refine oV [(0, t0), (3, v34), (4, t4_66), (5, t5_67), (6, (newP h_16)), (7, .int .i64 t7), (8, (newP h_68)), (10, (newP h_84)), (40, .int .i64 t40), (41, .bool t42)] (n104 ?_)
              obtain ⟨k106, e106, hF⟩ := lett_some hF
              have J106 : ∀ (t4_107 : AV) (t5_108 : AV) (h_109 : AHeap), k106 t4_107 t5_108 h_109 = some (rR, hR) → Go w0 m0 (Func.ntmps Try.f5) (K103 .normal) [(0, t0), (3, v34), (4, t4_107), (5, t5_108), (6, (newP h_16)), (7, .int .i64 t7)] [] h_109 := by
                intro t4_107 t5_108 h_109 hF
                rw [e106] at hF
                refine n103 (n74 (n73 (W.r ?_)))
                refine oA 24 (.int .i64 t7) ?_
                refine oI 25 .i64 hF fun t25 hF => ?_
                refine oA 7 (.int .i64 t25) ?_
                refine oV [(0, t0), (3, v34), (4, t4_107), (5, t5_108), (6, (newP h_16)), (7, .int .i64 t25)] (n64 ?_)
                exact gW _ (ih64 _ _ _ _ _ hF)
              cases t42 with
              | true =>
                refine oT hF fun hF => ?_
                refine oG fun n111 => W.r ?_
                refine oA 43 (AV.ptr (AHeap.next h_84) 5) ?_
                refine oLi 44 33 hF fun t44 hF => ?_
                refine oB 45 hF fun t45 hF => ?_
                refine oV [(0, t0), (3, v34), (4, t4_66), (5, t5_67), (6, (newP h_16)), (7, .int .i64 t7), (8, (newP h_68)), (10, (newP h_84)), (45, .bool t45)] (n111 ?_)
                obtain ⟨k115, e115, hF⟩ := lett_some hF
                have J115 : ∀ (t4_116 : AV) (t5_117 : AV) (h_118 : AHeap), k115 t4_116 t5_117 h_118 = some (rR, hR) → Go w0 m0 (Func.ntmps Try.f5) (K103 .normal) [(0, t0), (3, v34), (4, t4_116), (5, t5_117), (6, (newP h_16)), (7, .int .i64 t7)] [] h_118 := by
                  intro t4_116 t5_117 h_118 hF
                  rw [e115] at hF
                  exact gW _ (J106 _ _ _ hF)
                cases t45 with
                | true =>
                  refine oT hF fun hF => ?_
                  refine oH fun n119 q119 => ?_
                  refine W.s (fun K120 n120 e120 q120 p120 => ?_)
                  obtain ⟨k121, e121, hF⟩ := lett_some hF
                  have J121 : ∀ (t80 : Bool) (h_122 : AHeap), k121 t80 h_122 = some (rR, hR) → Go w0 m0 (Func.ntmps Try.f5) (K120 .normal) [(0, t0), (3, v34), (4, t4_66), (5, t5_67), (6, (newP h_16)), (7, .int .i64 t7), (8, (newP h_68)), (10, (newP h_84)), (80, .bool t80)] [] h_122 := by
                    intro t80 h_122 hF
                    rw [e121] at hF
                    refine n120 ?_
                    cases t80 with
                    | true =>
                      refine oT hF fun hF => ?_
                      refine oG fun n123 => W.r ?_
                      refine oA 2 (.bool false) ?_
                      refine oV [(2, .bool false)] (n123 (oY (q119 (q103 (q74 (q73 (q64 (q25 (q23 ?_)))))))))
                      exact lZ hF [.tmp 2] [.bool false] (rT res_nil)
                    | false =>
                      refine oU hF fun hF => ?_
                      refine oZ (n119 ?_)
                      refine oG fun n124 => W.r ?_
                      refine oA 81 t4_66 ?_
                      refine oA 82 (AV.ptr (AHeap.next h_84) 0) ?_
                      refine oLi 83 3 hF fun t83 hF => ?_
                      refine oA 84 (AV.ptr (AHeap.next h_68) 1) ?_
                      refine oLi 85 3 hF fun t85 hF => ?_
                      refine oA 86 (AV.ptr (AHeap.next h_68) 2) ?_
                      refine oLi 87 3 hF fun t87 hF => ?_
                      refine oA 88 (AV.ptr (AHeap.next h_68) 3) ?_
                      refine oLs 89 9 hF fun t89 hF => ?_
                      refine oA 90 (.agg ([.int .i64 t83, .int .i64 t85, .int .i64 t87, strA t89] : List AV)) ?_
                      refine oK 91 hF fun v91 h_133 hF => ?_
                      refine oK 92 hF fun v92 h_135 hF => ?_
                      refine oA 4 v92 ?_
                      refine oV [(0, t0), (3, v34), (4, v92), (5, t5_67), (6, (newP h_16)), (7, .int .i64 t7)] (n124 (W.r ?_))
                      refine oA 93 t5_67 ?_
                      refine oK 94 hF fun v94 h_137 hF => ?_
                      refine oK 95 hF fun v95 h_139 hF => ?_
                      refine oA 5 v95 ?_
                      refine oV [(0, t0), (3, v34), (4, v92), (5, v95), (6, (newP h_16)), (7, .int .i64 t7)] ?_
                      exact gW _ (J115 _ _ _ hF)
                  refine W.draw (by kernel_rfl) (hc.ok w0) (plan := [0, 1, 2, 3, 4, 5, 6, 7, 8, 9, 10, 11, 12, 13, 14, 15, 16, 17, 18, 19, 20, 21, 22, 23, 24, 25, 26, 27, 28, 29, 30, 31, 32, 33, 34]) (by kernel_rfl) (by kernel_rfl) (by kernel_rfl) ?_
                  refine WD.a 0 (some 46) (AV.ptr (AHeap.next h_84) 0) h_96 ?_
                  replace hF := obind_some hF; obtain ⟨v47, e141, hF⟩ := hF
                  replace hF := obind_some hF; obtain ⟨t47, c142, hF⟩ := hF
                  have c142 := avInt_some c142
                  subst c142
                  refine WD.b 1 (some 47) (.int .i64 t47) h_96 (load_cell (P := Try.prog) (h := h_96) (t := 3) (by kernel_rfl) e141) ?_
                  refine WD.a 0 (some 48) t4_66 h_96 ?_
                  obtain ⟨t49, e143, hF⟩ := obind_some hF
                  refine WD.b 0 (some 49) (.int .i64 t49) h_96 (len_row (P := Try.prog) (h := h_96) (t := 27) (e' := 32) (by kernel_rfl) e143) ?_
                  obtain ⟨t50, e144, hF⟩ := lett_some hF
                  refine WD.val (d := (some 50)) (v := .int .i64 t50) (h' := h_96) (by kernel_rfl) (by kernel_rfl) (val_of (AV.int .i64) e144 (by kernel_rfl)) (k := 0) (by kernel_rfl) (fun e => absurd e (by decide)) (by decide) ?_
                  obtain ⟨t51, e145, hF⟩ := lett_some hF
                  refine WD.val (d := (some 51)) (v := .bool t51) (h' := h_96) (by kernel_rfl) (by kernel_rfl) (val_of AV.bool e145 (by kernel_rfl)) (k := 0) (by kernel_rfl) (fun e => absurd e (by decide)) (by decide) ?_
                  refine WD.a 0 (some 52) (.bool t51) h_96 ?_
                  cases t51 with
                  | true =>
                    replace hF := ifB_t hF
                    refine oD 0 (some 53) ?_
                    refine oD 1 (some 54) ?_
                    refine oD 0 (some 55) ?_
                    refine WD.a 0 (some 56) (.bool true) h_96 ?_
                    refine WD.a 0 (some 57) (.bool true) h_96 ?_
                    refine oD 0 (some 58) ?_
                    refine oD 1 (some 59) ?_
                    refine oD 0 (some 60) ?_
                    refine WD.a 0 (some 61) (.bool true) h_96 ?_
                    refine WD.a 0 (some 62) (.bool true) h_96 ?_
                    refine oD 0 (some 63) ?_
                    refine oD 1 (some 64) ?_
                    refine oD 0 (some 65) ?_
                    refine WD.a 0 (some 66) (.bool true) h_96 ?_
                    refine WD.a 0 (some 67) (.bool true) h_96 ?_
                    refine oD 0 (some 68) ?_
                    refine oD 1 (some 69) ?_
                    refine oD 0 (some 70) ?_
                    refine WD.a 0 (some 71) (.bool true) h_96 ?_
                    refine WD.a 0 (some 72) (.bool true) h_96 ?_
                    refine oD 0 (some 73) ?_
                    refine oD 1 (some 74) ?_
                    refine oD 0 (some 75) ?_
                    refine oD 1 (some 76) ?_
                    refine oD 0 (some 77) ?_
                    refine oD 0 (some 78) ?_
                    refine oD 1 (some 79) ?_
                    refine WD.a 0 (some 80) (.bool true) h_96 ?_
                    refine WD.nil ?_
                    exact gW _ (J121 _ _ hF)
                  | false =>
                    replace hF := ifB_f hF
                    refine WD.a 0 (some 53) (AV.ptr (AHeap.next h_68) 1) h_96 ?_
                    replace hF := obind_some hF; obtain ⟨v54, e146, hF⟩ := hF
                    replace hF := obind_some hF; obtain ⟨t54, c147, hF⟩ := hF
                    have c147 := avInt_some c147
                    subst c147
                    refine WD.b 1 (some 54) (.int .i64 t54) h_96 (load_cell (P := Try.prog) (h := h_96) (t := 3) (by kernel_rfl) e146) ?_
                    obtain ⟨t55, e148, hF⟩ := lett_some hF
                    refine WD.val (d := (some 55)) (v := .bool t55) (h' := h_96) (by kernel_rfl) (by kernel_rfl) (val_of AV.bool e148 (by kernel_rfl)) (k := 0) (by kernel_rfl) (fun e => absurd e (by decide)) (by decide) ?_
                    refine WD.a 0 (some 56) (.bool t55) h_96 ?_
                    refine WD.a 0 (some 57) (.bool t55) h_96 ?_
                    cases t55 with
                    | true =>
                      replace hF := ifB_t hF
                      refine oD 0 (some 58) ?_
                      refine oD 1 (some 59) ?_
                      refine oD 0 (some 60) ?_
                      refine WD.a 0 (some 61) (.bool true) h_96 ?_
                      refine WD.a 0 (some 62) (.bool true) h_96 ?_
                      refine oD 0 (some 63) ?_
                      refine oD 1 (some 64) ?_
                      refine oD 0 (some 65) ?_
                      refine WD.a 0 (some 66) (.bool true) h_96 ?_
                      refine WD.a 0 (some 67) (.bool true) h_96 ?_
                      refine oD 0 (some 68) ?_
                      refine oD 1 (some 69) ?_
                      refine oD 0 (some 70) ?_
                      refine WD.a 0 (some 71) (.bool true) h_96 ?_
                      refine WD.a 0 (some 72) (.bool true) h_96 ?_
                      refine oD 0 (some 73) ?_
                      refine oD 1 (some 74) ?_
                      refine oD 0 (some 75) ?_
                      refine oD 1 (some 76) ?_
                      refine oD 0 (some 77) ?_
                      refine oD 0 (some 78) ?_
                      refine oD 1 (some 79) ?_
                      refine WD.a 0 (some 80) (.bool true) h_96 ?_
                      refine WD.nil ?_
                      exact gW _ (J121 _ _ hF)
                    | false =>
                      replace hF := ifB_f hF
                      refine WD.a 0 (some 58) (AV.ptr (AHeap.next h_68) 1) h_96 ?_
                      replace hF := obind_some hF; obtain ⟨v59, e149, hF⟩ := hF
                      replace hF := obind_some hF; obtain ⟨t59, c150, hF⟩ := hF
                      have c150 := avInt_some c150
                      subst c150
                      refine WD.b 1 (some 59) (.int .i64 t59) h_96 (load_cell (P := Try.prog) (h := h_96) (t := 3) (by kernel_rfl) e149) ?_
                      obtain ⟨t60, e151, hF⟩ := lett_some hF
                      refine WD.val (d := (some 60)) (v := .bool t60) (h' := h_96) (by kernel_rfl) (by kernel_rfl) (val_of AV.bool e151 (by kernel_rfl)) (k := 0) (by kernel_rfl) (fun e => absurd e (by decide)) (by decide) ?_
                      refine WD.a 0 (some 61) (.bool t60) h_96 ?_
                      refine WD.a 0 (some 62) (.bool t60) h_96 ?_
                      cases t60 with
                      | true =>
                        replace hF := ifB_t hF
                        refine oD 0 (some 63) ?_
                        refine oD 1 (some 64) ?_
                        refine oD 0 (some 65) ?_
                        refine WD.a 0 (some 66) (.bool true) h_96 ?_
                        refine WD.a 0 (some 67) (.bool true) h_96 ?_
                        refine oD 0 (some 68) ?_
                        refine oD 1 (some 69) ?_
                        refine oD 0 (some 70) ?_
                        refine WD.a 0 (some 71) (.bool true) h_96 ?_
                        refine WD.a 0 (some 72) (.bool true) h_96 ?_
                        refine oD 0 (some 73) ?_
                        refine oD 1 (some 74) ?_
                        refine oD 0 (some 75) ?_
                        refine oD 1 (some 76) ?_
                        refine oD 0 (some 77) ?_
                        refine oD 0 (some 78) ?_
                        refine oD 1 (some 79) ?_
                        refine WD.a 0 (some 80) (.bool true) h_96 ?_
                        refine WD.nil ?_
                        exact gW _ (J121 _ _ hF)
                      | false =>
                        replace hF := ifB_f hF
                        refine WD.a 0 (some 63) (AV.ptr (AHeap.next h_68) 2) h_96 ?_
                        replace hF := obind_some hF; obtain ⟨v64, e152, hF⟩ := hF
                        replace hF := obind_some hF; obtain ⟨t64, c153, hF⟩ := hF
                        have c153 := avInt_some c153
                        subst c153
                        refine WD.b 1 (some 64) (.int .i64 t64) h_96 (load_cell (P := Try.prog) (h := h_96) (t := 3) (by kernel_rfl) e152) ?_
                        obtain ⟨t65, e154, hF⟩ := lett_some hF
                        refine WD.val (d := (some 65)) (v := .bool t65) (h' := h_96) (by kernel_rfl) (by kernel_rfl) (val_of AV.bool e154 (by kernel_rfl)) (k := 0) (by kernel_rfl) (fun e => absurd e (by decide)) (by decide) ?_
                        refine WD.a 0 (some 66) (.bool t65) h_96 ?_
                        refine WD.a 0 (some 67) (.bool t65) h_96 ?_
                        cases t65 with
                        | true =>
                          replace hF := ifB_t hF
                          refine oD 0 (some 68) ?_
                          refine oD 1 (some 69) ?_
                          refine oD 0 (some 70) ?_
                          refine WD.a 0 (some 71) (.bool true) h_96 ?_
                          refine WD.a 0 (some 72) (.bool true) h_96 ?_
                          refine oD 0 (some 73) ?_
                          refine oD 1 (some 74) ?_
                          refine oD 0 (some 75) ?_
                          refine oD 1 (some 76) ?_
                          refine oD 0 (some 77) ?_
                          refine oD 0 (some 78) ?_
                          refine oD 1 (some 79) ?_
                          refine WD.a 0 (some 80) (.bool true) h_96 ?_
                          refine WD.nil ?_
                          exact gW _ (J121 _ _ hF)
                        | false =>
                          replace hF := ifB_f hF
                          refine WD.a 0 (some 68) (AV.ptr (AHeap.next h_68) 2) h_96 ?_
                          replace hF := obind_some hF; obtain ⟨v69, e155, hF⟩ := hF
                          replace hF := obind_some hF; obtain ⟨t69, c156, hF⟩ := hF
                          have c156 := avInt_some c156
                          subst c156
                          refine WD.b 1 (some 69) (.int .i64 t69) h_96 (load_cell (P := Try.prog) (h := h_96) (t := 3) (by kernel_rfl) e155) ?_
                          obtain ⟨t70, e157, hF⟩ := lett_some hF
                          refine WD.val (d := (some 70)) (v := .bool t70) (h' := h_96) (by kernel_rfl) (by kernel_rfl) (val_of AV.bool e157 (by kernel_rfl)) (k := 0) (by kernel_rfl) (fun e => absurd e (by decide)) (by decide) ?_
                          refine WD.a 0 (some 71) (.bool t70) h_96 ?_
                          refine WD.a 0 (some 72) (.bool t70) h_96 ?_
                          cases t70 with
                          | true =>
                            replace hF := ifB_t hF
                            refine oD 0 (some 73) ?_
                            refine oD 1 (some 74) ?_
                            refine oD 0 (some 75) ?_
                            refine oD 1 (some 76) ?_
                            refine oD 0 (some 77) ?_
                            refine oD 0 (some 78) ?_
                            refine oD 1 (some 79) ?_
                            refine WD.a 0 (some 80) (.bool true) h_96 ?_
                            refine WD.nil ?_
                            exact gW _ (J121 _ _ hF)
                          | false =>
                            replace hF := ifB_f hF
                            refine WD.a 0 (some 73) (AV.ptr (AHeap.next h_68) 1) h_96 ?_
                            replace hF := obind_some hF; obtain ⟨v74, e158, hF⟩ := hF
                            replace hF := obind_some hF; obtain ⟨t74, c159, hF⟩ := hF
                            have c159 := avInt_some c159
                            subst c159
                            refine WD.b 1 (some 74) (.int .i64 t74) h_96 (load_cell (P := Try.prog) (h := h_96) (t := 3) (by kernel_rfl) e158) ?_
                            refine WD.a 0 (some 75) (AV.ptr (AHeap.next h_68) 2) h_96 ?_
                            replace hF := obind_some hF; obtain ⟨v76, e160, hF⟩ := hF
                            replace hF := obind_some hF; obtain ⟨t76, c161, hF⟩ := hF
                            have c161 := avInt_some c161
                            subst c161
                            refine WD.b 1 (some 76) (.int .i64 t76) h_96 (load_cell (P := Try.prog) (h := h_96) (t := 3) (by kernel_rfl) e160) ?_
                            obtain ⟨t77, e162, hF⟩ := obind_some hF
                            refine WD.b 0 (some 77) t77 h_96 (index_arr (P := Try.prog) (h := h_96) (t := 50) (e' := 49) (k := .i64) (by kernel_rfl) (by kernel_rfl) (by kernel_rfl) e162) ?_
                            obtain ⟨t78, e163, hF⟩ := obind_some hF
                            refine WD.b 0 (some 78) t78 h_96 (index_arr (P := Try.prog) (h := h_96) (t := 49) (e' := 4) (k := .i64) (by kernel_rfl) (by kernel_rfl) (by kernel_rfl) e163) ?_
                            replace hF := obind_some hF; obtain ⟨v79, e164, hF⟩ := hF
                            replace hF := obind_some hF; obtain ⟨t79, c165, hF⟩ := hF
                            have c165 := avBool_some c165
                            subst c165
                            refine WD.b 1 (some 79) (.bool t79) h_96 (load_cell (P := Try.prog) (h := h_96) (t := 4) (by kernel_rfl) e164) ?_
                            refine WD.a 0 (some 80) (.bool t79) h_96 ?_
                            refine WD.nil ?_
                            exact gW _ (J121 _ _ hF)
                | false =>
                  refine oU hF fun hF => ?_
                  refine oZ ?_
                  exact gW _ (J115 _ _ _ hF)
              | false =>
                refine oU hF fun hF => ?_
                refine oG fun n166 => W.r ?_
                refine oB 97 hF fun t97 hF => ?_
                refine oA 96 (.bool t97) ?_
                refine oV [(0, t0), (3, v34), (4, t4_66), (5, t5_67), (6, (newP h_16)), (7, .int .i64 t7), (8, (newP h_68)), (10, (newP h_84)), (40, .int .i64 t40), (96, .bool t97)] (n166 ?_)
                obtain ⟨k168, e168, hF⟩ := lett_some hF
                have J168 : ∀ (t4_169 : AV) (t5_170 : AV) (h_171 : AHeap), k168 t4_169 t5_170 h_171 = some (rR, hR) → Go w0 m0 (Func.ntmps Try.f5) (K103 .normal) [(0, t0), (3, v34), (4, t4_169), (5, t5_170), (6, (newP h_16)), (7, .int .i64 t7)] [] h_171 := by
                  intro t4_169 t5_170 h_171 hF
                  rw [e168] at hF
                  exact gW _ (J106 _ _ _ hF)
                cases t97 with
                | true =>
                  refine oT hF fun hF => ?_
                  refine oG fun n172 => W.r ?_
                  refine oA 98 (AV.ptr (AHeap.next h_84) 5) ?_
                  refine oLi 99 33 hF fun t99 hF => ?_
                  refine oB 100 hF fun t100 hF => ?_
                  refine oV [(0, t0), (3, v34), (4, t4_66), (5, t5_67), (6, (newP h_16)), (7, .int .i64 t7), (8, (newP h_68)), (10, (newP h_84)), (100, .bool t100)] (n172 ?_)
                  obtain ⟨k176, e176, hF⟩ := lett_some hF
                  have J176 : ∀ (t4_177 : AV) (t5_178 : AV) (h_179 : AHeap), k176 t4_177 t5_178 h_179 = some (rR, hR) → Go w0 m0 (Func.ntmps Try.f5) (K103 .normal) [(0, t0), (3, v34), (4, t4_177), (5, t5_178), (6, (newP h_16)), (7, .int .i64 t7)] [] h_179 := by
                    intro t4_177 t5_178 h_179 hF
                    rw [e176] at hF
                    exact gW _ (J168 _ _ _ hF)
                  cases t100 with
                  | true =>
                    refine oT hF fun hF => ?_
                    refine oH fun n180 q180 => ?_
                    refine W.s (fun K181 n181 e181 q181 p181 => ?_)
                    refine W.r ?_
                    refine oA 101 (AV.ptr (AHeap.next h_84) 0) ?_
                    refine oLi 102 3 hF fun t102 hF => ?_
                    refine oA 103 t4_66 ?_
                    refine oM 104 27 32 hF fun t104 hF => ?_
                    refine oI 105 .i64 hF fun t105 hF => ?_
                    refine oB 106 hF fun t106 hF => ?_
                    refine oA 107 (.bool t106) ?_
                    obtain ⟨j111, e188, hF⟩ := lett_some hF
                    have J189 : ∀ (t111 : Bool) (h_187 : AHeap), j111 t111 h_187 = some (rR, hR) → WL Try.prog w0 m0 (Func.ntmps Try.f5) (Code.ops (Code.p1 (Code.p1 (Code.p1 (Code.p2 (Code.p1 (Code.p2 (Code.p2 (Code.p2 (Code.p1 (Code.p2 (Code.p2 (Code.p2 (Code.p2 (Code.p2 (Code.p1 (Code.p1 (Code.p2 (Code.p1 (Code.p1 (Code.p2 (Code.p1 (Code.p2 (Code.p2 (Code.p2 (Code.p2 (Code.p2 (Code.p2 (Code.p2 (codeOf Try.f5)))))))))))))))))))))))))))))) 11 K181 [(0, t0), (3, v34), (4, t4_66), (5, t5_67), (6, (newP h_16)), (7, .int .i64 t7), (8, (newP h_68)), (10, (newP h_84)), (111, .bool t111)] [] h_187 := by
                      intro t111 h_187 hF
                      rw [e188] at hF
                      refine oA 112 (.bool t111) ?_
                      obtain ⟨j118, e191, hF⟩ := lett_some hF
                      have J192 : ∀ (t118 : Bool) (h_190 : AHeap), j118 t118 h_190 = some (rR, hR) → WL Try.prog w0 m0 (Func.ntmps Try.f5) (Code.ops (Code.p1 (Code.p1 (Code.p1 (Code.p2 (Code.p1 (Code.p2 (Code.p2 (Code.p2 (Code.p1 (Code.p2 (Code.p2 (Code.p2 (Code.p2 (Code.p2 (Code.p1 (Code.p1 (Code.p2 (Code.p1 (Code.p1 (Code.p2 (Code.p1 (Code.p2 (Code.p2 (Code.p2 (Code.p2 (Code.p2 (Code.p2 (Code.p2 (codeOf Try.f5)))))))))))))))))))))))))))))) 18 K181 [(0, t0), (3, v34), (4, t4_66), (5, t5_67), (6, (newP h_16)), (7, .int .i64 t7), (8, (newP h_68)), (10, (newP h_84)), (118, .bool t118)] [] h_190 := by
                        intro t118 h_190 hF
                        rw [e191] at hF
                        refine oA 119 (.bool t118) ?_
                        obtain ⟨j126, e194, hF⟩ := lett_some hF
                        have J195 : ∀ (t126 : Bool) (h_193 : AHeap), j126 t126 h_193 = some (rR, hR) → WL Try.prog w0 m0 (Func.ntmps Try.f5) (Code.ops (Code.p1 (Code.p1 (Code.p1 (Code.p2 (Code.p1 (Code.p2 (Code.p2 (Code.p2 (Code.p1 (Code.p2 (Code.p2 (Code.p2 (Code.p2 (Code.p2 (Code.p1 (Code.p1 (Code.p2 (Code.p1 (Code.p1 (Code.p2 (Code.p1 (Code.p2 (Code.p2 (Code.p2 (Code.p2 (Code.p2 (Code.p2 (Code.p2 (codeOf Try.f5)))))))))))))))))))))))))))))) 26 K181 [(0, t0), (3, v34), (4, t4_66), (5, t5_67), (6, (newP h_16)), (7, .int .i64 t7), (8, (newP h_68)), (10, (newP h_84)), (126, .bool t126)] [] h_193 := by
                          intro t126 h_193 hF
                          rw [e194] at hF
                          refine oV [(0, t0), (3, v34), (4, t4_66), (5, t5_67), (6, (newP h_16)), (7, .int .i64 t7), (8, (newP h_68)), (10, (newP h_84)), (126, .bool t126)] (n181 ?_)
                          cases t126 with
                          | true =>
                            refine oT hF fun hF => ?_
                            refine oG fun n196 => W.r ?_
                            refine oA 2 (.bool false) ?_
                            refine oV [(2, .bool false)] (n196 (oY (q180 (q103 (q74 (q73 (q64 (q25 (q23 ?_)))))))))
                            exact lZ hF [.tmp 2] [.bool false] (rT res_nil)
                          | false =>
                            refine oU hF fun hF => ?_
                            refine oZ (n180 ?_)
                            refine oG fun n197 => W.r ?_
                            refine oA 127 t4_66 ?_
                            refine oA 128 (AV.ptr (AHeap.next h_68) 1) ?_
                            refine oLi 129 3 hF fun t129 hF => ?_
                            refine oI 130 .i64 hF fun t130 hF => ?_
                            refine oP 131 27 32 .i64 hF fun t131 hF => ?_
                            refine oR 132 32 hF fun t132 hF => ?_
                            refine oN 11 hF fun h_203 hF => ?_
                            refine oW 32 (.agg t132) hF fun h_205 hF => ?_
                            refine oV [(0, t0), (3, v34), (4, t4_66), (5, t5_67), (6, (newP h_16)), (7, .int .i64 t7), (10, (newP h_84)), (11, (newP h_193))] (n197 ?_)
                            refine oG fun n207 => W.r ?_
                            refine oA 133 (AV.ptr (AHeap.next h_84) 0) ?_
                            refine oLi 134 3 hF fun t134 hF => ?_
                            refine oA 135 (AV.ptr (AHeap.next h_193) 0) ?_
                            refine oW 3 (.int .i64 t134) hF fun h_210 hF => ?_
                            refine oV [(0, t0), (3, v34), (4, t4_66), (5, t5_67), (6, (newP h_16)), (7, .int .i64 t7), (11, (newP h_193))] (n207 ?_)
                            refine oG fun n212 => W.r ?_
                            refine oA 136 t4_66 ?_
                            refine oR 137 32 hF fun t137 hF => ?_
                            refine oK 138 hF fun v138 h_214 hF => ?_
                            refine oK 139 hF fun v139 h_216 hF => ?_
                            refine oA 4 v139 ?_
                            refine oV [(0, t0), (3, v34), (4, v139), (5, t5_67), (6, (newP h_16)), (7, .int .i64 t7)] (n212 (W.r ?_))
                            refine oA 140 t5_67 ?_
                            refine oK 141 hF fun v141 h_218 hF => ?_
                            refine oK 142 hF fun v142 h_220 hF => ?_
                            refine oA 5 v142 ?_
                            refine oV [(0, t0), (3, v34), (4, v139), (5, v142), (6, (newP h_16)), (7, .int .i64 t7)] ?_
                            exact gW _ (J176 _ _ _ hF)
                        cases t118 with
                        | true =>
                          replace hF := ifB_t hF
                          refine WL.o (some 120) ?_
                          refine WL.o (some 121) ?_
                          refine WL.o (some 122) ?_
                          refine WL.o (some 123) ?_
                          refine WL.o (some 124) ?_
                          refine WL.o (some 125) ?_
                          refine oA 126 (.bool true) ?_
                          exact lW _ (J195 _ _ hF)
                        | false =>
                          replace hF := ifB_f hF
                          refine oA 120 t5_67 ?_
                          refine oA 121 (AV.ptr (AHeap.next h_68) 1) ?_
                          refine oLi 122 3 hF fun t122 hF => ?_
                          refine oI 123 .i64 hF fun t123 hF => ?_
                          refine oP 124 48 4 .i64 hF fun t124 hF => ?_
                          refine oLb 125 4 hF fun t125 hF => ?_
                          refine oA 126 (.bool t125) ?_
                          exact lW _ (J195 _ _ hF)
                      cases t111 with
                      | true =>
                        replace hF := ifB_t hF
                        refine WL.o (some 113) ?_
                        refine WL.o (some 114) ?_
                        refine WL.o (some 115) ?_
                        refine WL.o (some 116) ?_
                        refine WL.o (some 117) ?_
                        refine oA 118 (.bool true) ?_
                        exact lW _ (J192 _ _ hF)
                      | false =>
                        replace hF := ifB_f hF
                        refine oA 113 (AV.ptr (AHeap.next h_68) 1) ?_
                        refine oLi 114 3 hF fun t114 hF => ?_
                        refine oA 115 t4_66 ?_
                        refine oM 116 27 32 hF fun t116 hF => ?_
                        refine oB 117 hF fun t117 hF => ?_
                        refine oA 118 (.bool t117) ?_
                        exact lW _ (J192 _ _ hF)
                    cases t106 with
                    | true =>
                      replace hF := ifB_t hF
                      refine WL.o (some 108) ?_
                      refine WL.o (some 109) ?_
                      refine WL.o (some 110) ?_
                      refine oA 111 (.bool true) ?_
                      exact lW _ (J189 _ _ hF)
                    | false =>
                      replace hF := ifB_f hF
                      refine oA 108 (AV.ptr (AHeap.next h_68) 1) ?_
                      refine oLi 109 3 hF fun t109 hF => ?_
                      refine oB 110 hF fun t110 hF => ?_
                      refine oA 111 (.bool t110) ?_
                      exact lW _ (J189 _ _ hF)
                  | false =>
                    refine oU hF fun hF => ?_
                    refine oZ ?_
                    exact gW _ (J176 _ _ _ hF)
                | false =>
                  refine oU hF fun hF => ?_
                  refine W.s (fun K235 n235 e235 q235 p235 => ?_)
                  refine oG fun n236 => W.r ?_
                  refine oB 144 hF fun t144 hF => ?_
                  refine oA 143 (.bool t144) ?_
                  refine oV [(0, t0), (3, v34), (4, t4_66), (5, t5_67), (6, (newP h_16)), (7, .int .i64 t7), (8, (newP h_68)), (10, (newP h_84)), (40, .int .i64 t40), (143, .bool t144)] (n236 ?_)
                  obtain ⟨k238, e238, hF⟩ := lett_some hF
                  have J238 : ∀ (t143 : Bool) (h_239 : AHeap), k238 t143 h_239 = some (rR, hR) → Go w0 m0 (Func.ntmps Try.f5) (K235 .normal) [(0, t0), (3, v34), (4, t4_66), (5, t5_67), (6, (newP h_16)), (7, .int .i64 t7), (8, (newP h_68)), (10, (newP h_84)), (40, .int .i64 t40), (143, .bool t143)] [] h_239 := by
                    intro t143 h_239 hF
                    rw [e238] at hF
                    refine n235 ?_
                    obtain ⟨k240, e240, hF⟩ := lett_some hF
                    have J240 : ∀  (h_241 : AHeap), k240 h_241 = some (rR, hR) → Go w0 m0 (Func.ntmps Try.f5) (K103 .normal) [(0, t0), (3, v34), (4, t4_66), (5, t5_67), (6, (newP h_16)), (7, .int .i64 t7)] [] h_241 := by
                      intro  h_241 hF
                      rw [e240] at hF
                      exact gW _ (J168 _ _ _ hF)
                    cases t143 with
                    | true =>
                      refine oT hF fun hF => ?_
                      refine W.s (fun K242 n242 e242 q242 p242 => ?_)
                      refine W.r ?_
                      refine oA 146 (AV.ptr (AHeap.next h_68) 1) ?_
                      refine oLi 147 3 hF fun t147 hF => ?_
                      refine oB 148 hF fun t148 hF => ?_
                      refine oA 149 (.bool t148) ?_
                      obtain ⟨j155, e247, hF⟩ := lett_some hF
                      have J248 : ∀ (t155 : Bool) (h_246 : AHeap), j155 t155 h_246 = some (rR, hR) → WL Try.prog w0 m0 (Func.ntmps Try.f5) (Code.ops (Code.p1 (Code.p1 (Code.p2 (Code.p2 (Code.p2 (Code.p2 (Code.p2 (Code.p1 (Code.p2 (Code.p2 (Code.p2 (Code.p2 (Code.p2 (Code.p1 (Code.p1 (Code.p2 (Code.p1 (Code.p1 (Code.p2 (Code.p1 (Code.p2 (Code.p2 (Code.p2 (Code.p2 (Code.p2 (Code.p2 (Code.p2 (codeOf Try.f5))))))))))))))))))))))))))))) 10 K242 [(0, t0), (3, v34), (4, t4_66), (5, t5_67), (6, (newP h_16)), (7, .int .i64 t7), (8, (newP h_68)), (10, (newP h_84)), (155, .bool t155)] [] h_246 := by
                        intro t155 h_246 hF
                        rw [e247] at hF
                        refine oA 156 (.bool t155) ?_
                        obtain ⟨j164, e250, hF⟩ := lett_some hF
                        have J251 : ∀ (t164 : Bool) (h_249 : AHeap), j164 t164 h_249 = some (rR, hR) → WL Try.prog w0 m0 (Func.ntmps Try.f5) (Code.ops (Code.p1 (Code.p1 (Code.p2 (Code.p2 (Code.p2 (Code.p2 (Code.p2 (Code.p1 (Code.p2 (Code.p2 (Code.p2 (Code.p2 (Code.p2 (Code.p1 (Code.p1 (Code.p2 (Code.p1 (Code.p1 (Code.p2 (Code.p1 (Code.p2 (Code.p2 (Code.p2 (Code.p2 (Code.p2 (Code.p2 (Code.p2 (codeOf Try.f5))))))))))))))))))))))))))))) 19 K242 [(0, t0), (3, v34), (4, t4_66), (5, t5_67), (6, (newP h_16)), (7, .int .i64 t7), (8, (newP h_68)), (10, (newP h_84)), (164, .bool t164)] [] h_249 := by
                          intro t164 h_249 hF
                          rw [e250] at hF
                          refine oA 12 (.bool t164) ?_
                          refine oV [(0, t0), (3, v34), (4, t4_66), (5, t5_67), (6, (newP h_16)), (7, .int .i64 t7), (8, (newP h_68)), (10, (newP h_84)), (12, .bool t164)] (n242 ?_)
                          refine oH fun n252 q252 => ?_
                          refine oG fun n253 => W.r ?_
                          refine oA 165 (AV.ptr (AHeap.next h_84) 5) ?_
                          refine oLi 166 33 hF fun t166 hF => ?_
                          refine oB 167 hF fun t167 hF => ?_
                          refine oA 168 (.bool t164) ?_
                          refine oB 169 hF fun t169 hF => ?_
                          refine oV [(0, t0), (3, v34), (4, t4_66), (5, t5_67), (6, (newP h_16)), (7, .int .i64 t7), (8, (newP h_68)), (10, (newP h_84)), (12, .bool t164), (169, .bool t169)] (n253 ?_)
                          cases t169 with
                          | true =>
                            refine oT hF fun hF => ?_
                            refine oG fun n258 => W.r ?_
                            refine oA 2 (.bool false) ?_
                            refine oV [(2, .bool false)] (n258 (oY (q252 (q103 (q74 (q73 (q64 (q25 (q23 ?_)))))))))
                            exact lZ hF [.tmp 2] [.bool false] (rT res_nil)
                          | false =>
                            refine oU hF fun hF => ?_
                            refine oZ (n252 ?_)
                            refine oG fun n259 => W.r ?_
                            refine oA 170 (.bool t164) ?_
                            refine oV [(0, t0), (3, v34), (4, t4_66), (5, t5_67), (6, (newP h_16)), (7, .int .i64 t7), (8, (newP h_68)), (10, (newP h_84)), (170, .bool t164)] (n259 ?_)
                            obtain ⟨k260, e260, hF⟩ := lett_some hF
                            have J260 : ∀  (h_261 : AHeap), k260 h_261 = some (rR, hR) → Go w0 m0 (Func.ntmps Try.f5) (K103 .normal) [(0, t0), (3, v34), (4, t4_66), (5, t5_67), (6, (newP h_16)), (7, .int .i64 t7)] [] h_261 := by
                              intro  h_261 hF
                              rw [e260] at hF
                              exact gW _ (J240 _ hF)
                            cases t164 with
                            | true =>
                              refine oT hF fun hF => ?_
                              refine oG fun n262 => W.r ?_
                              refine oA 171 t5_67 ?_
                              refine oA 172 (AV.ptr (AHeap.next h_68) 1) ?_
                              refine oLi 173 3 hF fun t173 hF => ?_
                              refine oI 174 .i64 hF fun t174 hF => ?_
                              refine oP 175 48 4 .i64 hF fun t175 hF => ?_
                              refine oW 4 (.bool true) hF fun h_267 hF => ?_
                              refine oV [(0, t0), (3, v34), (4, t4_66), (5, t5_67), (6, (newP h_16)), (7, .int .i64 t7), (8, (newP h_68)), (10, (newP h_84))] (n262 ?_)
                              refine W.s (fun K269 n269 e269 q269 p269 => ?_)
                              obtain ⟨k270, e270, hF⟩ := lett_some hF
                              have J270 : ∀ (t189 : Bool) (h_271 : AHeap), k270 t189 h_271 = some (rR, hR) → Go w0 m0 (Func.ntmps Try.f5) (K269 .normal) [(0, t0), (3, v34), (4, t4_66), (5, t5_67), (6, (newP h_16)), (7, .int .i64 t7), (189, .bool t189)] [] h_271 := by
                                intro t189 h_271 hF
                                rw [e270] at hF
                                refine n269 ?_
                                cases t189 with
                                | true =>
                                  refine oT hF fun hF => ?_
                                  refine oG fun n272 => W.r ?_
                                  refine oA 2 (.bool false) ?_
                                  refine oV [(2, .bool false)] (n272 (oY (q103 (q74 (q73 (q64 (q25 (q23 ?_))))))))
                                  exact lZ hF [.tmp 2] [.bool false] (rT res_nil)
                                | false =>
                                  refine oU hF fun hF => ?_
                                  refine oZ ?_
                                  exact gW _ (J260 _ hF)
                              refine W.draw (by kernel_rfl) (hc.ok w0) (plan := [0, 1, 2, 3, 4, 5, 6, 7, 8, 9, 10, 11, 12, 13]) (by kernel_rfl) (by kernel_rfl) (by kernel_rfl) ?_
                              refine WD.a 0 (some 176) (AV.ptr (AHeap.next h_68) 0) h_267 ?_
                              replace hF := obind_some hF; obtain ⟨v177, e273, hF⟩ := hF
                              replace hF := obind_some hF; obtain ⟨t177, c274, hF⟩ := hF
                              have c274 := avInt_some c274
                              subst c274
                              refine WD.b 1 (some 177) (.int .i64 t177) h_267 (load_cell (P := Try.prog) (h := h_267) (t := 3) (by kernel_rfl) e273) ?_
                              obtain ⟨t178, e275, hF⟩ := lett_some hF
                              refine WD.val (d := (some 178)) (v := .bool t178) (h' := h_267) (by kernel_rfl) (by kernel_rfl) (val_of AV.bool e275 (by kernel_rfl)) (k := 0) (by kernel_rfl) (fun e => absurd e (by decide)) (by decide) ?_
                              refine WD.a 0 (some 179) (.bool t178) h_267 ?_
                              cases t178 with
                              | true =>
                                replace hF := ifB_t hF
                                refine WD.a 0 (some 180) (AV.ptr (AHeap.next h_84) 1) h_267 ?_
                                obtain ⟨t181, e276, hF⟩ := obind_some hF
                                refine WD.b 1 (some 181) (.agg t181) h_267 (load_row (P := Try.prog) (h := h_267) (t := 32) (by kernel_rfl) (by kernel_rfl) e276) ?_
                                refine WD.a 0 (some 182) t4_66 h_267 ?_
                                refine WD.a 0 (some 183) (AV.ptr (AHeap.next h_68) 1) h_267 ?_
                                replace hF := obind_some hF; obtain ⟨v184, e277, hF⟩ := hF
                                replace hF := obind_some hF; obtain ⟨t184, c278, hF⟩ := hF
                                have c278 := avInt_some c278
                                subst c278
                                refine WD.b 1 (some 184) (.int .i64 t184) h_267 (load_cell (P := Try.prog) (h := h_267) (t := 3) (by kernel_rfl) e277) ?_
                                obtain ⟨t185, e279, hF⟩ := lett_some hF
                                refine WD.val (d := (some 185)) (v := .int .i64 t185) (h' := h_267) (by kernel_rfl) (by kernel_rfl) (val_of (AV.int .i64) e279 (by kernel_rfl)) (k := 0) (by kernel_rfl) (fun e => absurd e (by decide)) (by decide) ?_
                                obtain ⟨t186, e280, hF⟩ := obind_some hF
                                refine WD.b 0 (some 186) t186 h_267 (index_row (P := Try.prog) (h := h_267) (t := 27) (e' := 32) (k := .i64) (by kernel_rfl) (by kernel_rfl) (by kernel_rfl) e280) ?_
                                obtain ⟨t187, e281, hF⟩ := obind_some hF
                                refine WD.b 1 (some 187) (.agg t187) h_267 (load_row (P := Try.prog) (h := h_267) (t := 32) (by kernel_rfl) (by kernel_rfl) e281) ?_
                                obtain ⟨t188, e282, hF⟩ := obind_some hF
                                obtain ⟨t188_283, e284, hF⟩ := lett_some hF
                                refine WD.val (d := (some 188)) (v := .bool t188_283) (h' := h_267) (by kernel_rfl) (by kernel_rfl) (val_of AV.bool e284 (Eq.trans (by kernel_rfl) (neq_other (P := Try.prog) (h := h_267) (t := 32) (lit := false) (by kernel_rfl) e282))) (k := 0) (by kernel_rfl) (fun e => absurd e (by decide)) (by decide) ?_
                                refine WD.a 0 (some 189) (.bool t188_283) h_267 ?_
                                refine WD.nil ?_
                                exact gW _ (J270 _ _ hF)
                              | false =>
                                replace hF := ifB_f hF
                                refine oD 0 (some 180) ?_
                                refine oD 1 (some 181) ?_
                                refine oD 0 (some 182) ?_
                                refine oD 0 (some 183) ?_
                                refine oD 1 (some 184) ?_
                                refine oD 0 (some 185) ?_
                                refine oD 0 (some 186) ?_
                                refine oD 1 (some 187) ?_
                                refine oD 0 (some 188) ?_
                                refine WD.a 0 (some 189) (.bool false) h_267 ?_
                                refine WD.nil ?_
                                exact gW _ (J270 _ _ hF)
                            | false =>
                              refine oU hF fun hF => ?_
                              refine oZ ?_
                              exact gW _ (J260 _ hF)
                        cases t155 with
                        | true =>
                          replace hF := ifB_t hF
                          refine oA 157 t5_67 ?_
                          refine oA 158 (AV.ptr (AHeap.next h_68) 1) ?_
                          refine oLi 159 3 hF fun t159 hF => ?_
                          refine oI 160 .i64 hF fun t160 hF => ?_
                          refine oP 161 48 4 .i64 hF fun t161 hF => ?_
                          refine oLb 162 4 hF fun t162 hF => ?_
                          refine oB 163 hF fun t163 hF => ?_
                          refine oA 164 (.bool t163) ?_
                          exact lW _ (J251 _ _ hF)
                        | false =>
                          replace hF := ifB_f hF
                          refine WL.o (some 157) ?_
                          refine WL.o (some 158) ?_
                          refine WL.o (some 159) ?_
                          refine WL.o (some 160) ?_
                          refine WL.o (some 161) ?_
                          refine WL.o (some 162) ?_
                          refine WL.o (some 163) ?_
                          refine oA 164 (.bool false) ?_
                          exact lW _ (J251 _ _ hF)
                      cases t148 with
                      | true =>
                        replace hF := ifB_t hF
                        refine oA 150 (AV.ptr (AHeap.next h_68) 1) ?_
                        refine oLi 151 3 hF fun t151 hF => ?_
                        refine oA 152 t4_66 ?_
                        refine oM 153 27 32 hF fun t153 hF => ?_
                        refine oB 154 hF fun t154 hF => ?_
                        refine oA 155 (.bool t154) ?_
                        exact lW _ (J248 _ _ hF)
                      | false =>
                        replace hF := ifB_f hF
                        refine WL.o (some 150) ?_
                        refine WL.o (some 151) ?_
                        refine WL.o (some 152) ?_
                        refine WL.o (some 153) ?_
                        refine WL.o (some 154) ?_
                        refine oA 155 (.bool false) ?_
                        exact lW _ (J248 _ _ hF)
                    | false =>
                      refine oU hF fun hF => ?_
                      refine W.s (fun K296 n296 e296 q296 p296 => ?_)
                      refine oG fun n297 => W.r ?_
                      refine oB 191 hF fun t191 hF => ?_
                      refine oA 190 (.bool t191) ?_
                      refine oV [(0, t0), (3, v34), (4, t4_66), (5, t5_67), (6, (newP h_16)), (7, .int .i64 t7), (8, (newP h_68)), (10, (newP h_84)), (40, .int .i64 t40), (190, .bool t191)] (n297 ?_)
                      obtain ⟨k299, e299, hF⟩ := lett_some hF
                      have J299 : ∀ (t190 : Bool) (h_300 : AHeap), k299 t190 h_300 = some (rR, hR) → Go w0 m0 (Func.ntmps Try.f5) (K296 .normal) [(0, t0), (3, v34), (4, t4_66), (5, t5_67), (6, (newP h_16)), (7, .int .i64 t7), (8, (newP h_68)), (10, (newP h_84)), (190, .bool t190)] [] h_300 := by
                        intro t190 h_300 hF
                        rw [e299] at hF
                        refine n296 ?_
                        obtain ⟨k301, e301, hF⟩ := lett_some hF
                        have J301 : ∀  (h_302 : AHeap), k301 h_302 = some (rR, hR) → Go w0 m0 (Func.ntmps Try.f5) (K103 .normal) [(0, t0), (3, v34), (4, t4_66), (5, t5_67), (6, (newP h_16)), (7, .int .i64 t7)] [] h_302 := by
                          intro  h_302 hF
                          rw [e301] at hF
                          exact gW _ (J240 _ hF)
                        cases t190 with
                        | true =>
                          refine oT hF fun hF => ?_
                          refine oG fun n303 => W.r ?_
                          refine oA 193 (AV.ptr (AHeap.next h_84) 5) ?_
                          refine oLi 194 33 hF fun t194 hF => ?_
                          refine oB 195 hF fun t195 hF => ?_
                          refine oV [(0, t0), (3, v34), (4, t4_66), (5, t5_67), (6, (newP h_16)), (7, .int .i64 t7), (8, (newP h_68)), (195, .bool t195)] (n303 ?_)
                          obtain ⟨k307, e307, hF⟩ := lett_some hF
                          have J307 : ∀  (h_308 : AHeap), k307 h_308 = some (rR, hR) → Go w0 m0 (Func.ntmps Try.f5) (K103 .normal) [(0, t0), (3, v34), (4, t4_66), (5, t5_67), (6, (newP h_16)), (7, .int .i64 t7)] [] h_308 := by
                            intro  h_308 hF
                            rw [e307] at hF
                            exact gW _ (J301 _ hF)
                          cases t195 with
                          | true =>
                            refine oT hF fun hF => ?_
                            refine oH fun n309 q309 => ?_
                            refine W.s (fun K310 n310 e310 q310 p310 => ?_)
                            refine W.r ?_
                            refine oA 196 (AV.ptr (AHeap.next h_68) 1) ?_
                            refine oLi 197 3 hF fun t197 hF => ?_
                            refine oB 198 hF fun t198 hF => ?_
                            refine oA 199 (.bool t198) ?_
                            obtain ⟨j203, e315, hF⟩ := lett_some hF
                            have J316 : ∀ (t203 : Bool) (h_314 : AHeap), j203 t203 h_314 = some (rR, hR) → WL Try.prog w0 m0 (Func.ntmps Try.f5) (Code.ops (Code.p1 (Code.p1 (Code.p1 (Code.p2 (Code.p1 (Code.p2 (Code.p2 (Code.p2 (Code.p2 (Code.p2 (Code.p2 (Code.p2 (Code.p1 (Code.p2 (Code.p2 (Code.p2 (Code.p2 (Code.p2 (Code.p1 (Code.p1 (Code.p2 (Code.p1 (Code.p1 (Code.p2 (Code.p1 (Code.p2 (Code.p2 (Code.p2 (Code.p2 (Code.p2 (Code.p2 (Code.p2 (codeOf Try.f5)))))))))))))))))))))))))))))))))) 8 K310 [(0, t0), (3, v34), (4, t4_66), (5, t5_67), (6, (newP h_16)), (7, .int .i64 t7), (8, (newP h_68)), (203, .bool t203)] [] h_314 := by
                              intro t203 h_314 hF
                              rw [e315] at hF
                              refine oA 204 (.bool t203) ?_
                              obtain ⟨j208, e318, hF⟩ := lett_some hF
                              have J319 : ∀ (t208 : Bool) (h_317 : AHeap), j208 t208 h_317 = some (rR, hR) → WL Try.prog w0 m0 (Func.ntmps Try.f5) (Code.ops (Code.p1 (Code.p1 (Code.p1 (Code.p2 (Code.p1 (Code.p2 (Code.p2 (Code.p2 (Code.p2 (Code.p2 (Code.p2 (Code.p2 (Code.p1 (Code.p2 (Code.p2 (Code.p2 (Code.p2 (Code.p2 (Code.p1 (Code.p1 (Code.p2 (Code.p1 (Code.p1 (Code.p2 (Code.p1 (Code.p2 (Code.p2 (Code.p2 (Code.p2 (Code.p2 (Code.p2 (Code.p2 (codeOf Try.f5)))))))))))))))))))))))))))))))))) 13 K310 [(0, t0), (3, v34), (4, t4_66), (5, t5_67), (6, (newP h_16)), (7, .int .i64 t7), (8, (newP h_68)), (208, .bool t208)] [] h_317 := by
                                intro t208 h_317 hF
                                rw [e318] at hF
                                refine oA 209 (.bool t208) ?_
                                obtain ⟨j213, e321, hF⟩ := lett_some hF
                                have J322 : ∀ (t213 : Bool) (h_320 : AHeap), j213 t213 h_320 = some (rR, hR) → WL Try.prog w0 m0 (Func.ntmps Try.f5) (Code.ops (Code.p1 (Code.p1 (Code.p1 (Code.p2 (Code.p1 (Code.p2 (Code.p2 (Code.p2 (Code.p2 (Code.p2 (Code.p2 (Code.p2 (Code.p1 (Code.p2 (Code.p2 (Code.p2 (Code.p2 (Code.p2 (Code.p1 (Code.p1 (Code.p2 (Code.p1 (Code.p1 (Code.p2 (Code.p1 (Code.p2 (Code.p2 (Code.p2 (Code.p2 (Code.p2 (Code.p2 (Code.p2 (codeOf Try.f5)))))))))))))))))))))))))))))))))) 18 K310 [(0, t0), (3, v34), (4, t4_66), (5, t5_67), (6, (newP h_16)), (7, .int .i64 t7), (8, (newP h_68)), (213, .bool t213)] [] h_320 := by
                                  intro t213 h_320 hF
                                  rw [e321] at hF
                                  refine oA 214 (.bool t213) ?_
                                  obtain ⟨j220, e324, hF⟩ := lett_some hF
                                  have J325 : ∀ (t220 : Bool) (h_323 : AHeap), j220 t220 h_323 = some (rR, hR) → WL Try.prog w0 m0 (Func.ntmps Try.f5) (Code.ops (Code.p1 (Code.p1 (Code.p1 (Code.p2 (Code.p1 (Code.p2 (Code.p2 (Code.p2 (Code.p2 (Code.p2 (Code.p2 (Code.p2 (Code.p1 (Code.p2 (Code.p2 (Code.p2 (Code.p2 (Code.p2 (Code.p1 (Code.p1 (Code.p2 (Code.p1 (Code.p1 (Code.p2 (Code.p1 (Code.p2 (Code.p2 (Code.p2 (Code.p2 (Code.p2 (Code.p2 (Code.p2 (codeOf Try.f5)))))))))))))))))))))))))))))))))) 25 K310 [(0, t0), (3, v34), (4, t4_66), (5, t5_67), (6, (newP h_16)), (7, .int .i64 t7), (8, (newP h_68)), (220, .bool t220)] [] h_323 := by
                                    intro t220 h_323 hF
                                    rw [e324] at hF
                                    refine oV [(0, t0), (3, v34), (4, t4_66), (5, t5_67), (6, (newP h_16)), (7, .int .i64 t7), (8, (newP h_68)), (220, .bool t220)] (n310 ?_)
                                    cases t220 with
                                    | true =>
                                      refine oT hF fun hF => ?_
                                      refine oG fun n326 => W.r ?_
                                      refine oA 2 (.bool false) ?_
                                      refine oV [(2, .bool false)] (n326 (oY (q309 (q103 (q74 (q73 (q64 (q25 (q23 ?_)))))))))
                                      exact lZ hF [.tmp 2] [.bool false] (rT res_nil)
                                    | false =>
                                      refine oU hF fun hF => ?_
                                      refine oZ (n309 ?_)
                                      refine oG fun n327 => ?_
                                      refine W.draw (by kernel_rfl) (hc.ok w0) (plan := [0, 1, 2, 3, 4, 5, 6, 7, 8, 9]) (by kernel_rfl) (by kernel_rfl) (by kernel_rfl) ?_
                                      refine WD.a 0 (some 221) (AV.ptr (AHeap.next h_68) 1) h_323 ?_
                                      replace hF := obind_some hF; obtain ⟨v222, e328, hF⟩ := hF
                                      replace hF := obind_some hF; obtain ⟨t222, c329, hF⟩ := hF
                                      have c329 := avInt_some c329
                                      subst c329
                                      refine WD.b 1 (some 222) (.int .i64 t222) h_323 (load_cell (P := Try.prog) (h := h_323) (t := 3) (by kernel_rfl) e328) ?_
                                      refine WD.a 0 (some 223) (AV.ptr (AHeap.next h_68) 2) h_323 ?_
                                      replace hF := obind_some hF; obtain ⟨v224, e330, hF⟩ := hF
                                      replace hF := obind_some hF; obtain ⟨t224, c331, hF⟩ := hF
                                      have c331 := avInt_some c331
                                      subst c331
                                      refine WD.b 1 (some 224) (.int .i64 t224) h_323 (load_cell (P := Try.prog) (h := h_323) (t := 3) (by kernel_rfl) e330) ?_
                                      refine WD.a 0 (some 225) (AV.ptr (AHeap.next h_68) 0) h_323 ?_
                                      replace hF := obind_some hF; obtain ⟨v226, e332, hF⟩ := hF
                                      replace hF := obind_some hF; obtain ⟨t226, c333, hF⟩ := hF
                                      have c333 := avInt_some c333
                                      subst c333
                                      refine WD.b 1 (some 226) (.int .i64 t226) h_323 (load_cell (P := Try.prog) (h := h_323) (t := 3) (by kernel_rfl) e332) ?_
                                      obtain ⟨t227, e334, hF⟩ := lett_some hF
                                      refine WD.val (d := (some 227)) (v := .bool t227) (h' := h_323) (by kernel_rfl) (by kernel_rfl) (val_of AV.bool e334 (by kernel_rfl)) (k := 0) (by kernel_rfl) (fun e => absurd e (by decide)) (by decide) ?_
                                      obtain ⟨t228, e335, hF⟩ := obind_some hF
                                      refine WD.b 0 (some 228) t228 h_323 (index_arr (P := Try.prog) (h := h_323) (t := 50) (e' := 49) (k := .i64) (by kernel_rfl) (by kernel_rfl) (by kernel_rfl) e335) ?_
                                      obtain ⟨t229, e336, hF⟩ := obind_some hF
                                      refine WD.b 0 (some 229) t229 h_323 (index_arr (P := Try.prog) (h := h_323) (t := 49) (e' := 4) (k := .i64) (by kernel_rfl) (by kernel_rfl) (by kernel_rfl) e336) ?_
                                      obtain ⟨h_337, e338, hF⟩ := obind_some hF
                                      refine WD.eff (h' := h_337) (by kernel_rfl) (by kernel_rfl) (Eq.trans (by kernel_rfl) (store_row (P := Try.prog) (h := h_323) (t := 4) (v := (.bool t227)) (by kernel_rfl) (by kernel_rfl) e338)) (k := 2) (by kernel_rfl) (fun _ => (by kernel_rfl)) (by decide) ?_
                                      refine WD.nil ?_
                                      refine gW [(0, t0), (3, v34), (4, t4_66), (5, t5_67), (6, (newP h_16)), (7, .int .i64 t7), (8, (newP h_68))] (n327 ?_)
                                      refine W.draw (by kernel_rfl) (hc.ok w0) (plan := [0, 1, 2, 3, 4, 5, 6, 7, 8, 9]) (by kernel_rfl) (by kernel_rfl) (by kernel_rfl) ?_
                                      refine WD.a 0 (some 230) (AV.ptr (AHeap.next h_68) 2) h_337 ?_
                                      replace hF := obind_some hF; obtain ⟨v231, e339, hF⟩ := hF
                                      replace hF := obind_some hF; obtain ⟨t231, c340, hF⟩ := hF
                                      have c340 := avInt_some c340
                                      subst c340
                                      refine WD.b 1 (some 231) (.int .i64 t231) h_337 (load_cell (P := Try.prog) (h := h_337) (t := 3) (by kernel_rfl) e339) ?_
                                      refine WD.a 0 (some 232) (AV.ptr (AHeap.next h_68) 1) h_337 ?_
                                      replace hF := obind_some hF; obtain ⟨v233, e341, hF⟩ := hF
                                      replace hF := obind_some hF; obtain ⟨t233, c342, hF⟩ := hF
                                      have c342 := avInt_some c342
                                      subst c342
                                      refine WD.b 1 (some 233) (.int .i64 t233) h_337 (load_cell (P := Try.prog) (h := h_337) (t := 3) (by kernel_rfl) e341) ?_
                                      refine WD.a 0 (some 234) (AV.ptr (AHeap.next h_68) 0) h_337 ?_
                                      replace hF := obind_some hF; obtain ⟨v235, e343, hF⟩ := hF
                                      replace hF := obind_some hF; obtain ⟨t235, c344, hF⟩ := hF
                                      have c344 := avInt_some c344
                                      subst c344
                                      refine WD.b 1 (some 235) (.int .i64 t235) h_337 (load_cell (P := Try.prog) (h := h_337) (t := 3) (by kernel_rfl) e343) ?_
                                      obtain ⟨t236, e345, hF⟩ := lett_some hF
                                      refine WD.val (d := (some 236)) (v := .bool t236) (h' := h_337) (by kernel_rfl) (by kernel_rfl) (val_of AV.bool e345 (by kernel_rfl)) (k := 0) (by kernel_rfl) (fun e => absurd e (by decide)) (by decide) ?_
                                      obtain ⟨t237, e346, hF⟩ := obind_some hF
                                      refine WD.b 0 (some 237) t237 h_337 (index_arr (P := Try.prog) (h := h_337) (t := 50) (e' := 49) (k := .i64) (by kernel_rfl) (by kernel_rfl) (by kernel_rfl) e346) ?_
                                      obtain ⟨t238, e347, hF⟩ := obind_some hF
                                      refine WD.b 0 (some 238) t238 h_337 (index_arr (P := Try.prog) (h := h_337) (t := 49) (e' := 4) (k := .i64) (by kernel_rfl) (by kernel_rfl) (by kernel_rfl) e347) ?_
                                      obtain ⟨h_348, e349, hF⟩ := obind_some hF
                                      refine WD.eff (h' := h_348) (by kernel_rfl) (by kernel_rfl) (Eq.trans (by kernel_rfl) (store_row (P := Try.prog) (h := h_337) (t := 4) (v := (.bool t236)) (by kernel_rfl) (by kernel_rfl) e349)) (k := 2) (by kernel_rfl) (fun _ => (by kernel_rfl)) (by decide) ?_
                                      refine WD.nil ?_
                                      refine gW [(0, t0), (3, v34), (4, t4_66), (5, t5_67), (6, (newP h_16)), (7, .int .i64 t7)] ?_
                                      exact gW _ (J307 _ hF)
                                  cases t213 with
                                  | true =>
                                    replace hF := ifB_t hF
                                    refine WL.o (some 215) ?_
                                    refine WL.o (some 216) ?_
                                    refine WL.o (some 217) ?_
                                    refine WL.o (some 218) ?_
                                    refine WL.o (some 219) ?_
                                    refine oA 220 (.bool true) ?_
                                    exact lW _ (J325 _ _ hF)
                                  | false =>
                                    replace hF := ifB_f hF
                                    refine oA 215 (AV.ptr (AHeap.next h_68) 1) ?_
                                    refine oLi 216 3 hF fun t216 hF => ?_
                                    refine oA 217 (AV.ptr (AHeap.next h_68) 2) ?_
                                    refine oLi 218 3 hF fun t218 hF => ?_
                                    refine oB 219 hF fun t219 hF => ?_
                                    refine oA 220 (.bool t219) ?_
                                    exact lW _ (J325 _ _ hF)
                                cases t208 with
                                | true =>
                                  replace hF := ifB_t hF
                                  refine WL.o (some 210) ?_
                                  refine WL.o (some 211) ?_
                                  refine WL.o (some 212) ?_
                                  refine oA 213 (.bool true) ?_
                                  exact lW _ (J322 _ _ hF)
                                | false =>
                                  replace hF := ifB_f hF
                                  refine oA 210 (AV.ptr (AHeap.next h_68) 2) ?_
                                  refine oLi 211 3 hF fun t211 hF => ?_
                                  refine oB 212 hF fun t212 hF => ?_
                                  refine oA 213 (.bool t212) ?_
                                  exact lW _ (J322 _ _ hF)
                              cases t203 with
                              | true =>
                                replace hF := ifB_t hF
                                refine WL.o (some 205) ?_
                                refine WL.o (some 206) ?_
                                refine WL.o (some 207) ?_
                                refine oA 208 (.bool true) ?_
                                exact lW _ (J319 _ _ hF)
                              | false =>
                                replace hF := ifB_f hF
                                refine oA 205 (AV.ptr (AHeap.next h_68) 2) ?_
                                refine oLi 206 3 hF fun t206 hF => ?_
                                refine oB 207 hF fun t207 hF => ?_
                                refine oA 208 (.bool t207) ?_
                                exact lW _ (J319 _ _ hF)
                            cases t198 with
                            | true =>
                              replace hF := ifB_t hF
                              refine WL.o (some 200) ?_
                              refine WL.o (some 201) ?_
                              refine WL.o (some 202) ?_
                              refine oA 203 (.bool true) ?_
                              exact lW _ (J316 _ _ hF)
                            | false =>
                              replace hF := ifB_f hF
                              refine oA 200 (AV.ptr (AHeap.next h_68) 1) ?_
                              refine oLi 201 3 hF fun t201 hF => ?_
                              refine oB 202 hF fun t202 hF => ?_
                              refine oA 203 (.bool t202) ?_
                              exact lW _ (J316 _ _ hF)
                          | false =>
                            refine oU hF fun hF => ?_
                            refine oZ ?_
                            exact gW _ (J307 _ hF)
                        | false =>
                          refine oU hF fun hF => ?_
                          refine oZ ?_
                          exact gW _ (J301 _ hF)
                      cases t191 with
                      | true =>
                        refine oT hF fun hF => ?_
                        refine oZ ?_
                        exact gW _ (J299 _ _ hF)
                      | false =>
                        refine oU hF fun hF => ?_
                        refine W.r ?_
                        refine oB 192 hF fun t192 hF => ?_
                        refine oA 190 (.bool t192) ?_
                        refine oV [(0, t0), (3, v34), (4, t4_66), (5, t5_67), (6, (newP h_16)), (7, .int .i64 t7), (8, (newP h_68)), (10, (newP h_84)), (190, .bool t192)] ?_
                        exact gW _ (J299 _ _ hF)
                  cases t144 with
                  | true =>
                    refine oT hF fun hF => ?_
                    refine oZ ?_
                    exact gW _ (J238 _ _ hF)
                  | false =>
                    refine oU hF fun hF => ?_
                    refine W.r ?_
                    refine oB 145 hF fun t145 hF => ?_
                    refine oA 143 (.bool t145) ?_
                    refine oV [(0, t0), (3, v34), (4, t4_66), (5, t5_67), (6, (newP h_16)), (7, .int .i64 t7), (8, (newP h_68)), (10, (newP h_84)), (40, .int .i64 t40), (143, .bool t145)] ?_
                    exact gW _ (J238 _ _ hF)
          | false =>
            refine oU hF fun hF => ?_
            refine W.exit (by kernel_rfl) ?_
            refine e69 (e64 ?_)
            refine s25 (by kernel_rfl) ?_
            exact gW _ (J26 _ _ _ _ hF)
      exact gW _ (L64 _ _ _ _ _ _ hF)
end Go.Proofs.Ythdkfofkghpmcaa
