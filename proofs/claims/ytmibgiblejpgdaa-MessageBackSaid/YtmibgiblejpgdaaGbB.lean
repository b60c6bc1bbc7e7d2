/- Plain functions in place of the program's, and that their calls come to what they say. -/
import Derived.Test.YtmibgiblejpgdaaFrame
import Derived.Test.YtmibgiblejpgdaaAbs50
namespace Go.Proofs.Ytmibgiblejpgdaa
open Go.RowKit Abs

noncomputable def law17_MessageBack (call : CallF) (_ : Nat) (t0 : List AV) (t1 : List AV) (t2 : Int) (t3 : Bytes) (h : AHeap) : R :=
  outK (opBox h 30 (some (.agg t0))) fun v4 h_2 =>
  outK (opBox h_2 30 (some (.agg t1))) fun v5 h_4 =>
  callN (call 8 [] h_4) fun r15 h_8 =>
  obind (avBool r15) fun t15 =>
  lett (!t15) fun (t16 : Bool) =>
  ifB t16
  (
    some (.ret (.bool false), h_8))
  (
    obind (ldRow h_8 22 v4) fun t17 =>
    callN (call 14 [.agg t17] h_8) fun r18 h_16 =>
    obind (avBool r18) fun t18 =>
    lett (fun (t22 : Bool) (h_19 : AHeap) =>
      lett (fun (t27 : Bool) (h_22 : AHeap) =>
        ifB t27
        (
          some (.ret (.bool true), h_22))
        (
          obind (ldRow h_22 22 v4) fun t29 =>
          callN (call 9 [.agg t29] h_22) fun r30 h_28 =>
          obind (extT 0 r30) fun v31 =>
          obind (avStr v31) fun t31 =>
          obind (extT 1 r30) fun v32 =>
          obind (avInt .i64 v32) fun t32 =>
          obind (ldRow h_28 22 v5) fun t34 =>
          callN (call 9 [.agg t34] h_28) fun r35 h_36 =>
          obind (extT 0 r35) fun v36 =>
          obind (avStr v36) fun t36 =>
          obind (extT 1 r35) fun v37 =>
          obind (avInt .i64 v37) fun t37 =>
          lett ((t32 : Int) != 0) fun (t39 : Bool) =>
          ifB t39
          (
            lett (eqS t31 ([] : Bytes)) fun (t41 : Bool) =>
            some (.ret (.bool t41), h_36))
          (
            callN (call 11 [strA t31] h_36) fun r44 h_48 =>
            obind (extT 0 r44) fun v45 =>
            obind (avAgg v45) fun t45 =>
            obind (extT 1 r44) fun v46 =>
            obind (avAgg v46) fun t46 =>
            lett (newH h_48 30 [.int .u8 0, .int .i64 0, .int .i64 0, .int .i64 0, .int .i64 0, .int .i64 0, .int .i64 0, .int .i64 0, .bool false, .nsl, .int .i64 0, .int .i64 0, .str 0 0, .int .i64 0, .int .i64 0, .int .i64 0, .int .i64 0, .int .i64 0, .int .i64 0, .int .u8 0, .int .i64 0, .int .i64 0]) fun h_54 =>
            lett (newH h_54 33 [.int .i64 0, .int .i64 0]) fun h_56 =>
            obind (stRow h_56 22 t45 (newP h_48)) fun h_58 =>
            obind (stRow h_58 2 t46 (newP h_54)) fun h_60 =>
            obind (ldCell h_60 (AV.ptr (AHeap.next h_54) 0)) fun v48 =>
            obind (avInt .i64 v48) fun t48 =>
            lett ((t48 : Int) != 0) fun (t49 : Bool) =>
            lett (fun (t55 : Bool) (h_67 : AHeap) =>
              lett (fun (t68 : Bool) (h_70 : AHeap) =>
                ifB t68
                (
                  some (.ret (.bool false), h_70))
                (
                  obind (addS t31 t3) fun t72 =>
                  callN (call 11 [strA t72] h_70) fun r73 h_76 =>
                  obind (extT 0 r73) fun v74 =>
                  obind (avAgg v74) fun _ =>
                  obind (extT 1 r73) fun v75 =>
                  obind (avAgg v75) fun t75 =>
                  obind (stRow h_76 2 t75 (newP h_54)) fun h_82 =>
                  obind (ldCell h_82 (AV.ptr (AHeap.next h_54) 0)) fun v77 =>
                  obind (avInt .i64 v77) fun t77 =>
                  lett ((t77 : Int) == 0) fun (t78 : Bool) =>
                  lett (eqS t3 ([] : Bytes)) fun (t80 : Bool) =>
                  lett (!((t78 : Bool) == t80)) fun (t81 : Bool) =>
                  ifB t81
                  (
                    some (.ret (.bool false), h_82))
                  (
                    lett (decide (t2 < 0)) fun (t83 : Bool) =>
                    lett (fun (t89 : Bool) (h_95 : AHeap) =>
                      ifB t89
                      (
                        some (.ret (.bool true), h_95))
                      (
                        obind (sliceS t31 0 t2) fun t93 =>
                        callN (call 11 [strA t93] h_95) fun r94 h_101 =>
                        obind (extT 0 r94) fun v95 =>
                        obind (avAgg v95) fun _ =>
                        obind (extT 1 r94) fun v96 =>
                        obind (avAgg v96) fun t96 =>
                        obind (stRow h_101 2 t96 (newP h_54)) fun h_107 =>
                        obind (ldCell h_107 (AV.ptr (AHeap.next h_54) 0)) fun v98 =>
                        obind (avInt .i64 v98) fun t98 =>
                        lett ((t98 : Int) != 0) fun (t99 : Bool) =>
                        some (.ret (.bool t99), h_107))) fun j89 =>
                    ifB t83
                    (
                      j89 true h_82)
                    (
                      lett (decide (t2 ≥ (lenS t31))) fun (t88 : Bool) =>
                      j89 t88 h_82)))) fun j68 =>
              ifB t55
              (
                j68 true h_67)
              (
                lett ((t37 : Int) == 0) fun (t58 : Bool) =>
                lett (fun (t67 : Bool) (h_115 : AHeap) =>
                  j68 t67 h_115) fun j67 =>
                ifB t58
                (
                  lett (eqS t31 t36) fun (t62 : Bool) =>
                  obind (ldRow h_67 22 v4) fun t63 =>
                  obind (ldRow h_67 22 v5) fun t64 =>
                  callN (call 17 [.agg t63, .agg t64] h_67) fun r65 h_121 =>
                  obind (avBool r65) fun t65 =>
                  lett (!((t62 : Bool) == t65)) fun (t66 : Bool) =>
                  j67 t66 h_121)
                (
                  j67 false h_67))) fun j55 =>
            ifB t49
            (
              j55 true h_60)
            (
              obind (ldRow h_60 22 (newP h_48)) fun t51 =>
              obind (ldRow h_60 22 v4) fun t52 =>
              callN (call 17 [.agg t51, .agg t52] h_60) fun r53 h_127 =>
              obind (avBool r53) fun t53 =>
              lett (!t53) fun (t54 : Bool) =>
              j55 t54 h_127)))) fun j27 =>
      ifB t22
      (
        j27 true h_19)
      (
        lett (decide ((lenS t3) > 4096)) fun (t26 : Bool) =>
        j27 t26 h_19)) fun j22 =>
    ifB t18
    (
      j22 true h_16)
    (
      obind (ldRow h_16 22 v5) fun t20 =>
      callN (call 14 [.agg t20] h_16) fun r21 h_133 =>
      obind (avBool r21) fun t21 =>
      j22 t21 h_133))
set_option maxHeartbeats 4000000 in
set_option maxRecDepth 20000 in
theorem law17_MessageBack_ok {call : CallF} (hc : SaysAll Try.prog call) {n : Nat} {t0 : List AV} {t1 : List AV} {t2 : Int} {t3 : Bytes} {h : AHeap} {rR : ARes} {hR : AHeap} (hF : law17_MessageBack call n t0 t1 t2 t3 h = some (rR, hR)) : Says Try.prog 6 [.agg t0, .agg t1, .int .i64 t2, strA t3] h rR hR := by
  unfold law17_MessageBack at hF
  refine says_of (fn := Try.f6) Try.func6 (c := codeOf Try.f6) (by kernel_rfl) (by kernel_rfl) (fun w0 m0 => ?_)
  refine W.weaken (l' := [(0, .agg t0), (1, .agg t1), (2, .int .i64 t2), (3, strA t3)]) (Fr.c (Fr.c (Fr.c (Fr.c Fr.n)))) ?_
  refine W.s (fun K1 n1 e1 q1 p1 => ?_)
  refine W.r ?_
  replace hF := outK_some hF; obtain ⟨v4, h_2, e3, hF⟩ := hF
  refine WL.b (some 4) v4 h_2 e3 ?_
  replace hF := outK_some hF; obtain ⟨v5, h_4, e5, hF⟩ := hF
  refine WL.b (some 5) v5 h_4 e5 ?_
  refine WL.a (some 8) (.bool false) h_4 ?_
  refine WL.n ?_
  refine Go.weaken (l' := [(2, .int .i64 t2), (3, strA t3), (4, v4), (5, v5)]) (Fr.c (Fr.c (Fr.c (Fr.c Fr.n)))) ?_
  refine n1 ?_
  refine W.s (fun K6 n6 e6 q6 p6 => ?_)
  refine W.s (fun K7 n7 e7 q7 p7 => ?_)
  refine W.r ?_
  replace hF := callN_some hF; obtain ⟨r15, h_8, e9, hF⟩ := hF
  replace hF := obind_some hF; obtain ⟨t15, c10, hF⟩ := hF
  have c10 := avBool_some c10
  subst c10
  refine WL.c (hc.ok w0) (some 15) e9 ?_
  replace hF := lett_some hF; obtain ⟨t16, e11, hF⟩ := hF
  refine WL.val (d := (some 16)) (v := .bool t16) (h' := h_8) (by kernel_rfl) (by kernel_rfl) (val_of AV.bool e11 (by kernel_rfl)) ?_
  refine WL.n ?_
  refine Go.weaken (l' := [(2, .int .i64 t2), (3, strA t3), (4, v4), (5, v5), (16, .bool t16)]) (Fr.c (Fr.c (Fr.c (Fr.c (Fr.c Fr.n))))) ?_
  refine n7 ?_
  cases t16 with
  | true =>
    replace hF := ifB_t hF
    refine W.t ?_
    refine W.s (fun K12 n12 e12 q12 p12 => ?_)
    refine W.r ?_
    refine WL.a (some 8) (.bool false) h_8 ?_
    refine WL.n ?_
    refine Go.weaken (l' := [(8, .bool false)]) (Fr.c Fr.n) ?_
    refine n12 ?_
    refine W.ret (by kernel_rfl) ?_
    refine q6 ?_
    obtain ⟨hF, hF2⟩ := ret_inj hF; subst hF; subst hF2
    exact leave_of (rs := [.tmp 8]) (vs := [.bool false]) (by kernel_rfl) (res_tmp (by kernel_rfl) res_nil) (by kernel_rfl)
  | false =>
    replace hF := ifB_f hF
    refine W.f ?_
    refine W.skip (by kernel_rfl) ?_
    refine n6 ?_
    refine W.s (fun K13 n13 e13 q13 p13 => ?_)
    refine W.s (fun K14 n14 e14 q14 p14 => ?_)
    refine W.r ?_
    replace hF := obind_some hF; obtain ⟨t17, e15, hF⟩ := hF
    refine WL.b (some 17) (.agg t17) h_8 (load_row (P := Try.prog) (h := h_8) (t := 30) (by kernel_rfl) (by kernel_rfl) e15) ?_
    replace hF := callN_some hF; obtain ⟨r18, h_16, e17, hF⟩ := hF
    replace hF := obind_some hF; obtain ⟨t18, c18, hF⟩ := hF
    have c18 := avBool_some c18
    subst c18
    refine WL.c (hc.ok w0) (some 18) e17 ?_
    refine WL.a (some 19) (.bool t18) h_16 ?_
    replace hF := lett_some hF; obtain ⟨j22, e20, hF⟩ := hF
    have J21 : ∀ (t22 : Bool) (h_19 : AHeap), j22 t22 h_19 = some (rR, hR) → WL Try.prog w0 m0 (Func.ntmps Try.f6) (Code.ops (Code.p1 (Code.p1 (Code.p2 (Code.p2 (codeOf Try.f6)))))) 6 K14 [(2, .int .i64 t2), (3, strA t3), (4, v4), (5, v5), (22, .bool t22)] [] h_19 := by
      intro t22 h_19 hF
      rw [e20] at hF
      refine WL.a (some 23) (.bool t22) h_19 ?_
      replace hF := lett_some hF; obtain ⟨j27, e23, hF⟩ := hF
      have J24 : ∀ (t27 : Bool) (h_22 : AHeap), j27 t27 h_22 = some (rR, hR) → WL Try.prog w0 m0 (Func.ntmps Try.f6) (Code.ops (Code.p1 (Code.p1 (Code.p2 (Code.p2 (codeOf Try.f6)))))) 11 K14 [(2, .int .i64 t2), (3, strA t3), (4, v4), (5, v5), (27, .bool t27)] [] h_22 := by
        intro t27 h_22 hF
        rw [e23] at hF
        refine WL.n ?_
        refine Go.weaken (l' := [(2, .int .i64 t2), (3, strA t3), (4, v4), (5, v5), (27, .bool t27)]) (Fr.c (Fr.c (Fr.c (Fr.c (Fr.c Fr.n))))) ?_
        refine n14 ?_
        cases t27 with
        | true =>
          replace hF := ifB_t hF
          refine W.t ?_
          refine W.s (fun K25 n25 e25 q25 p25 => ?_)
          refine W.r ?_
          refine WL.a (some 8) (.bool true) h_22 ?_
          refine WL.n ?_
          refine Go.weaken (l' := [(8, .bool true)]) (Fr.c Fr.n) ?_
          refine n25 ?_
          refine W.ret (by kernel_rfl) ?_
          refine q13 ?_
          obtain ⟨hF, hF2⟩ := ret_inj hF; subst hF; subst hF2
          exact leave_of (rs := [.tmp 8]) (vs := [.bool true]) (by kernel_rfl) (res_tmp (by kernel_rfl) res_nil) (by kernel_rfl)
        | false =>
          replace hF := ifB_f hF
          refine W.f ?_
          refine W.skip (by kernel_rfl) ?_
          refine n13 ?_
          refine W.s (fun K26 n26 e26 q26 p26 => ?_)
          refine W.r ?_
          replace hF := obind_some hF; obtain ⟨t29, e27, hF⟩ := hF
          refine WL.b (some 29) (.agg t29) h_22 (load_row (P := Try.prog) (h := h_22) (t := 30) (by kernel_rfl) (by kernel_rfl) e27) ?_
          replace hF := callN_some hF; obtain ⟨r30, h_28, e29, hF⟩ := hF
          refine WL.c (hc.ok w0) (some 30) e29 ?_
          refine WL.a (some 28) r30 h_28 ?_
          replace hF := obind_some hF; obtain ⟨v31, e30, hF⟩ := hF
          replace hF := obind_some hF; obtain ⟨t31, c31, hF⟩ := hF
          have c31 := avStr_some c31
          subst c31
          refine WL.b (some 31) (strA t31) h_28 (extract_tup (h := h_28) e30) ?_
          replace hF := obind_some hF; obtain ⟨v32, e32, hF⟩ := hF
          replace hF := obind_some hF; obtain ⟨t32, c33, hF⟩ := hF
          have c33 := avInt_some c33
          subst c33
          refine WL.b (some 32) (.int .i64 t32) h_28 (extract_tup (h := h_28) e32) ?_
          refine WL.a (some 9) (strA t31) h_28 ?_
          refine WL.a (some 10) (.int .i64 t32) h_28 ?_
          refine WL.n ?_
          refine Go.weaken (l' := [(2, .int .i64 t2), (3, strA t3), (4, v4), (5, v5), (9, strA t31), (10, .int .i64 t32)]) (Fr.c (Fr.c (Fr.c (Fr.c (Fr.c (Fr.c Fr.n)))))) ?_
          refine n26 ?_
          refine W.s (fun K34 n34 e34 q34 p34 => ?_)
          refine W.r ?_
          replace hF := obind_some hF; obtain ⟨t34, e35, hF⟩ := hF
          refine WL.b (some 34) (.agg t34) h_28 (load_row (P := Try.prog) (h := h_28) (t := 30) (by kernel_rfl) (by kernel_rfl) e35) ?_
          replace hF := callN_some hF; obtain ⟨r35, h_36, e37, hF⟩ := hF
          refine WL.c (hc.ok w0) (some 35) e37 ?_
          refine WL.a (some 33) r35 h_36 ?_
          replace hF := obind_some hF; obtain ⟨v36, e38, hF⟩ := hF
          replace hF := obind_some hF; obtain ⟨t36, c39, hF⟩ := hF
          have c39 := avStr_some c39
          subst c39
          refine WL.b (some 36) (strA t36) h_36 (extract_tup (h := h_36) e38) ?_
          replace hF := obind_some hF; obtain ⟨v37, e40, hF⟩ := hF
          replace hF := obind_some hF; obtain ⟨t37, c41, hF⟩ := hF
          have c41 := avInt_some c41
          subst c41
          refine WL.b (some 37) (.int .i64 t37) h_36 (extract_tup (h := h_36) e40) ?_
          refine WL.a (some 11) (strA t36) h_36 ?_
          refine WL.a (some 12) (.int .i64 t37) h_36 ?_
          refine WL.n ?_
          refine Go.weaken (l' := [(2, .int .i64 t2), (3, strA t3), (4, v4), (5, v5), (9, strA t31), (10, .int .i64 t32), (11, strA t36), (12, .int .i64 t37)]) (Fr.c (Fr.c (Fr.c (Fr.c (Fr.c (Fr.c (Fr.c (Fr.c Fr.n)))))))) ?_
          refine n34 ?_
          refine W.s (fun K42 n42 e42 q42 p42 => ?_)
          refine W.s (fun K43 n43 e43 q43 p43 => ?_)
          refine W.r ?_
          refine WL.a (some 38) (.int .i64 t32) h_36 ?_
          replace hF := lett_some hF; obtain ⟨t39, e44, hF⟩ := hF
          refine WL.val (d := (some 39)) (v := .bool t39) (h' := h_36) (by kernel_rfl) (by kernel_rfl) (val_of AV.bool e44 (by kernel_rfl)) ?_
          refine WL.n ?_
          refine Go.weaken (l' := [(2, .int .i64 t2), (3, strA t3), (4, v4), (5, v5), (9, strA t31), (11, strA t36), (12, .int .i64 t37), (39, .bool t39)]) (Fr.c (Fr.c (Fr.c (Fr.c (Fr.c (Fr.c (Fr.c (Fr.c Fr.n)))))))) ?_
          refine n43 ?_
          cases t39 with
          | true =>
            replace hF := ifB_t hF
            refine W.t ?_
            refine W.s (fun K45 n45 e45 q45 p45 => ?_)
            refine W.r ?_
            refine WL.a (some 40) (strA t31) h_36 ?_
            replace hF := lett_some hF; obtain ⟨t41, e46, hF⟩ := hF
            refine WL.val (d := (some 41)) (v := .bool t41) (h' := h_36) (by kernel_rfl) (by kernel_rfl) (val_of AV.bool e46 (by kernel_rfl)) ?_
            refine WL.a (some 8) (.bool t41) h_36 ?_
            refine WL.n ?_
            refine Go.weaken (l' := [(8, .bool t41)]) (Fr.c Fr.n) ?_
            refine n45 ?_
            refine W.ret (by kernel_rfl) ?_
            refine q42 ?_
            obtain ⟨hF, hF2⟩ := ret_inj hF; subst hF; subst hF2
            exact leave_of (rs := [.tmp 8]) (vs := [.bool t41]) (by kernel_rfl) (res_tmp (by kernel_rfl) res_nil) (by kernel_rfl)
          | false =>
            replace hF := ifB_f hF
            refine W.f ?_
            refine W.skip (by kernel_rfl) ?_
            refine n42 ?_
            refine W.s (fun K47 n47 e47 q47 p47 => ?_)
            refine W.r ?_
            refine WL.a (some 43) (strA t31) h_36 ?_
            replace hF := callN_some hF; obtain ⟨r44, h_48, e49, hF⟩ := hF
            refine WL.c (hc.ok w0) (some 44) e49 ?_
            refine WL.a (some 42) r44 h_48 ?_
            replace hF := obind_some hF; obtain ⟨v45, e50, hF⟩ := hF
            replace hF := obind_some hF; obtain ⟨t45, c51, hF⟩ := hF
            have c51 := avAgg_some c51
            subst c51
            refine WL.b (some 45) (.agg t45) h_48 (extract_tup (h := h_48) e50) ?_
            replace hF := obind_some hF; obtain ⟨v46, e52, hF⟩ := hF
            replace hF := obind_some hF; obtain ⟨t46, c53, hF⟩ := hF
            have c53 := avAgg_some c53
            subst c53
            refine WL.b (some 46) (.agg t46) h_48 (extract_tup (h := h_48) e52) ?_
            replace hF := lett_some hF; obtain ⟨h_54, e55, hF⟩ := hF
            refine WL.val (d := (some 13)) (v := (newP h_48)) (h' := h_54) (by kernel_rfl) (by kernel_rfl) (val_ofH e55 (by kernel_rfl)) ?_
            replace hF := lett_some hF; obtain ⟨h_56, e57, hF⟩ := hF
            refine WL.val (d := (some 14)) (v := (newP h_54)) (h' := h_56) (by kernel_rfl) (by kernel_rfl) (val_ofH e57 (by kernel_rfl)) ?_
            replace hF := obind_some hF; obtain ⟨h_58, e59, hF⟩ := hF
            refine WL.e h_58 (store_row (P := Try.prog) (h := h_56) (t := 30) (v := (.agg t45)) (by kernel_rfl) (by kernel_rfl) e59) ?_
            replace hF := obind_some hF; obtain ⟨h_60, e61, hF⟩ := hF
            refine WL.e h_60 (store_row (P := Try.prog) (h := h_58) (t := 33) (v := (.agg t46)) (by kernel_rfl) (by kernel_rfl) e61) ?_
            refine WL.n ?_
            refine Go.weaken (l' := [(2, .int .i64 t2), (3, strA t3), (4, v4), (5, v5), (9, strA t31), (11, strA t36), (12, .int .i64 t37), (13, (newP h_48)), (14, (newP h_54))]) (Fr.c (Fr.c (Fr.c (Fr.c (Fr.c (Fr.c (Fr.c (Fr.c (Fr.c Fr.n))))))))) ?_
            refine n47 ?_
            refine W.s (fun K62 n62 e62 q62 p62 => ?_)
            refine W.s (fun K63 n63 e63 q63 p63 => ?_)
            refine W.r ?_
            refine WL.a (some 47) (AV.ptr (AHeap.next h_54) 0) h_60 ?_
            replace hF := obind_some hF; obtain ⟨v48, e64, hF⟩ := hF
            replace hF := obind_some hF; obtain ⟨t48, c65, hF⟩ := hF
            have c65 := avInt_some c65
            subst c65
            refine WL.b (some 48) (.int .i64 t48) h_60 (load_cell (P := Try.prog) (h := h_60) (t := 23) (by kernel_rfl) e64) ?_
            replace hF := lett_some hF; obtain ⟨t49, e66, hF⟩ := hF
            refine WL.val (d := (some 49)) (v := .bool t49) (h' := h_60) (by kernel_rfl) (by kernel_rfl) (val_of AV.bool e66 (by kernel_rfl)) ?_
            refine WL.a (some 50) (.bool t49) h_60 ?_
            replace hF := lett_some hF; obtain ⟨j55, e68, hF⟩ := hF
            have J69 : ∀ (t55 : Bool) (h_67 : AHeap), j55 t55 h_67 = some (rR, hR) → WL Try.prog w0 m0 (Func.ntmps Try.f6) (Code.ops (Code.p1 (Code.p1 (Code.p2 (Code.p2 (Code.p2 (Code.p2 (Code.p2 (Code.p2 (Code.p2 (codeOf Try.f6))))))))))) 9 K63 [(2, .int .i64 t2), (3, strA t3), (4, v4), (5, v5), (9, strA t31), (11, strA t36), (12, .int .i64 t37), (14, (newP h_54)), (55, .bool t55)] [] h_67 := by
              intro t55 h_67 hF
              rw [e68] at hF
              refine WL.a (some 56) (.bool t55) h_67 ?_
              replace hF := lett_some hF; obtain ⟨j68, e71, hF⟩ := hF
              have J72 : ∀ (t68 : Bool) (h_70 : AHeap), j68 t68 h_70 = some (rR, hR) → WL Try.prog w0 m0 (Func.ntmps Try.f6) (Code.ops (Code.p1 (Code.p1 (Code.p2 (Code.p2 (Code.p2 (Code.p2 (Code.p2 (Code.p2 (Code.p2 (codeOf Try.f6))))))))))) 22 K63 [(2, .int .i64 t2), (3, strA t3), (9, strA t31), (14, (newP h_54)), (68, .bool t68)] [] h_70 := by
                intro t68 h_70 hF
                rw [e71] at hF
                refine WL.n ?_
                refine Go.weaken (l' := [(2, .int .i64 t2), (3, strA t3), (9, strA t31), (14, (newP h_54)), (68, .bool t68)]) (Fr.c (Fr.c (Fr.c (Fr.c (Fr.c Fr.n))))) ?_
                refine n63 ?_
                cases t68 with
                | true =>
                  replace hF := ifB_t hF
                  refine W.t ?_
                  refine W.s (fun K73 n73 e73 q73 p73 => ?_)
                  refine W.r ?_
                  refine WL.a (some 8) (.bool false) h_70 ?_
                  refine WL.n ?_
                  refine Go.weaken (l' := [(8, .bool false)]) (Fr.c Fr.n) ?_
                  refine n73 ?_
                  refine W.ret (by kernel_rfl) ?_
                  refine q62 ?_
                  obtain ⟨hF, hF2⟩ := ret_inj hF; subst hF; subst hF2
                  exact leave_of (rs := [.tmp 8]) (vs := [.bool false]) (by kernel_rfl) (res_tmp (by kernel_rfl) res_nil) (by kernel_rfl)
                | false =>
                  replace hF := ifB_f hF
                  refine W.f ?_
                  refine W.skip (by kernel_rfl) ?_
                  refine n62 ?_
                  refine W.s (fun K74 n74 e74 q74 p74 => ?_)
                  refine W.r ?_
                  refine WL.a (some 70) (strA t31) h_70 ?_
                  refine WL.a (some 71) (strA t3) h_70 ?_
                  replace hF := obind_some hF; obtain ⟨t72, e75, hF⟩ := hF
                  refine WL.b (some 72) (strA t72) h_70 (add_str (P := Try.prog) (h := h_70) (t := 9) (lit := false) e75) ?_
                  replace hF := callN_some hF; obtain ⟨r73, h_76, e77, hF⟩ := hF
                  refine WL.c (hc.ok w0) (some 73) e77 ?_
                  refine WL.a (some 69) r73 h_76 ?_
                  replace hF := obind_some hF; obtain ⟨v74, e78, hF⟩ := hF
                  replace hF := obind_some hF; obtain ⟨t74, c79, hF⟩ := hF
                  have c79 := avAgg_some c79
                  subst c79
                  refine WL.b (some 74) (.agg t74) h_76 (extract_tup (h := h_76) e78) ?_
                  replace hF := obind_some hF; obtain ⟨v75, e80, hF⟩ := hF
                  replace hF := obind_some hF; obtain ⟨t75, c81, hF⟩ := hF
                  have c81 := avAgg_some c81
                  subst c81
                  refine WL.b (some 75) (.agg t75) h_76 (extract_tup (h := h_76) e80) ?_
                  replace hF := obind_some hF; obtain ⟨h_82, e83, hF⟩ := hF
                  refine WL.e h_82 (store_row (P := Try.prog) (h := h_76) (t := 33) (v := (.agg t75)) (by kernel_rfl) (by kernel_rfl) e83) ?_
                  refine WL.n ?_
                  refine Go.weaken (l' := [(2, .int .i64 t2), (3, strA t3), (9, strA t31), (14, (newP h_54))]) (Fr.c (Fr.c (Fr.c (Fr.c Fr.n)))) ?_
                  refine n74 ?_
                  refine W.s (fun K84 n84 e84 q84 p84 => ?_)
                  refine W.s (fun K85 n85 e85 q85 p85 => ?_)
                  refine W.r ?_
                  refine WL.a (some 76) (AV.ptr (AHeap.next h_54) 0) h_82 ?_
                  replace hF := obind_some hF; obtain ⟨v77, e86, hF⟩ := hF
                  replace hF := obind_some hF; obtain ⟨t77, c87, hF⟩ := hF
                  have c87 := avInt_some c87
                  subst c87
                  refine WL.b (some 77) (.int .i64 t77) h_82 (load_cell (P := Try.prog) (h := h_82) (t := 23) (by kernel_rfl) e86) ?_
                  replace hF := lett_some hF; obtain ⟨t78, e88, hF⟩ := hF
                  refine WL.val (d := (some 78)) (v := .bool t78) (h' := h_82) (by kernel_rfl) (by kernel_rfl) (val_of AV.bool e88 (by kernel_rfl)) ?_
                  refine WL.a (some 79) (strA t3) h_82 ?_
                  replace hF := lett_some hF; obtain ⟨t80, e89, hF⟩ := hF
                  refine WL.val (d := (some 80)) (v := .bool t80) (h' := h_82) (by kernel_rfl) (by kernel_rfl) (val_of AV.bool e89 (by kernel_rfl)) ?_
                  replace hF := lett_some hF; obtain ⟨t81, e90, hF⟩ := hF
                  refine WL.val (d := (some 81)) (v := .bool t81) (h' := h_82) (by kernel_rfl) (by kernel_rfl) (val_of AV.bool e90 (by kernel_rfl)) ?_
                  refine WL.n ?_
                  refine Go.weaken (l' := [(2, .int .i64 t2), (9, strA t31), (14, (newP h_54)), (81, .bool t81)]) (Fr.c (Fr.c (Fr.c (Fr.c Fr.n)))) ?_
                  refine n85 ?_
                  cases t81 with
                  | true =>
                    replace hF := ifB_t hF
                    refine W.t ?_
                    refine W.s (fun K91 n91 e91 q91 p91 => ?_)
                    refine W.r ?_
                    refine WL.a (some 8) (.bool false) h_82 ?_
                    refine WL.n ?_
                    refine Go.weaken (l' := [(8, .bool false)]) (Fr.c Fr.n) ?_
                    refine n91 ?_
                    refine W.ret (by kernel_rfl) ?_
                    refine q84 ?_
                    obtain ⟨hF, hF2⟩ := ret_inj hF; subst hF; subst hF2
                    exact leave_of (rs := [.tmp 8]) (vs := [.bool false]) (by kernel_rfl) (res_tmp (by kernel_rfl) res_nil) (by kernel_rfl)
                  | false =>
                    replace hF := ifB_f hF
                    refine W.f ?_
                    refine W.skip (by kernel_rfl) ?_
                    refine n84 ?_
                    refine W.s (fun K92 n92 e92 q92 p92 => ?_)
                    refine W.s (fun K93 n93 e93 q93 p93 => ?_)
                    refine W.r ?_
                    refine WL.a (some 82) (.int .i64 t2) h_82 ?_
                    replace hF := lett_some hF; obtain ⟨t83, e94, hF⟩ := hF
                    refine WL.val (d := (some 83)) (v := .bool t83) (h' := h_82) (by kernel_rfl) (by kernel_rfl) (val_of AV.bool e94 (by kernel_rfl)) ?_
                    refine WL.a (some 84) (.bool t83) h_82 ?_
                    replace hF := lett_some hF; obtain ⟨j89, e96, hF⟩ := hF
                    have J97 : ∀ (t89 : Bool) (h_95 : AHeap), j89 t89 h_95 = some (rR, hR) → WL Try.prog w0 m0 (Func.ntmps Try.f6) (Code.ops (Code.p1 (Code.p1 (Code.p2 (Code.p2 (Code.p2 (Code.p2 (Code.p2 (Code.p2 (Code.p2 (Code.p2 (Code.p2 (Code.p2 (codeOf Try.f6)))))))))))))) 8 K93 [(2, .int .i64 t2), (9, strA t31), (14, (newP h_54)), (89, .bool t89)] [] h_95 := by
                      intro t89 h_95 hF
                      rw [e96] at hF
                      refine WL.n ?_
                      refine Go.weaken (l' := [(2, .int .i64 t2), (9, strA t31), (14, (newP h_54)), (89, .bool t89)]) (Fr.c (Fr.c (Fr.c (Fr.c Fr.n)))) ?_
                      refine n93 ?_
                      cases t89 with
                      | true =>
                        replace hF := ifB_t hF
                        refine W.t ?_
                        refine W.s (fun K98 n98 e98 q98 p98 => ?_)
                        refine W.r ?_
                        refine WL.a (some 8) (.bool true) h_95 ?_
                        refine WL.n ?_
                        refine Go.weaken (l' := [(8, .bool true)]) (Fr.c Fr.n) ?_
                        refine n98 ?_
                        refine W.ret (by kernel_rfl) ?_
                        refine q92 ?_
                        obtain ⟨hF, hF2⟩ := ret_inj hF; subst hF; subst hF2
                        exact leave_of (rs := [.tmp 8]) (vs := [.bool true]) (by kernel_rfl) (res_tmp (by kernel_rfl) res_nil) (by kernel_rfl)
                      | false =>
                        replace hF := ifB_f hF
                        refine W.f ?_
                        refine W.skip (by kernel_rfl) ?_
                        refine n92 ?_
                        refine W.s (fun K99 n99 e99 q99 p99 => ?_)
                        refine W.r ?_
                        refine WL.a (some 91) (strA t31) h_95 ?_
                        refine WL.a (some 92) (.int .i64 t2) h_95 ?_
                        replace hF := obind_some hF; obtain ⟨t93, e100, hF⟩ := hF
                        refine WL.b (some 93) (strA t93) h_95 (slice_str (P := Try.prog) (h := h_95) (t := 9) (A := none) (B := (some (.int .i64 t2))) (by kernel_rfl) (.inr ⟨rfl, rfl⟩) (.inl ⟨_, rfl⟩) e100) ?_
                        replace hF := callN_some hF; obtain ⟨r94, h_101, e102, hF⟩ := hF
                        refine WL.c (hc.ok w0) (some 94) e102 ?_
                        refine WL.a (some 90) r94 h_101 ?_
                        replace hF := obind_some hF; obtain ⟨v95, e103, hF⟩ := hF
                        replace hF := obind_some hF; obtain ⟨t95, c104, hF⟩ := hF
                        have c104 := avAgg_some c104
                        subst c104
                        refine WL.b (some 95) (.agg t95) h_101 (extract_tup (h := h_101) e103) ?_
                        replace hF := obind_some hF; obtain ⟨v96, e105, hF⟩ := hF
                        replace hF := obind_some hF; obtain ⟨t96, c106, hF⟩ := hF
                        have c106 := avAgg_some c106
                        subst c106
                        refine WL.b (some 96) (.agg t96) h_101 (extract_tup (h := h_101) e105) ?_
                        replace hF := obind_some hF; obtain ⟨h_107, e108, hF⟩ := hF
                        refine WL.e h_107 (store_row (P := Try.prog) (h := h_101) (t := 33) (v := (.agg t96)) (by kernel_rfl) (by kernel_rfl) e108) ?_
                        refine WL.n ?_
                        refine Go.weaken (l' := [(14, (newP h_54))]) (Fr.c Fr.n) ?_
                        refine n99 ?_
                        refine W.s (fun K109 n109 e109 q109 p109 => ?_)
                        refine W.r ?_
                        refine WL.a (some 97) (AV.ptr (AHeap.next h_54) 0) h_107 ?_
                        replace hF := obind_some hF; obtain ⟨v98, e110, hF⟩ := hF
                        replace hF := obind_some hF; obtain ⟨t98, c111, hF⟩ := hF
                        have c111 := avInt_some c111
                        subst c111
                        refine WL.b (some 98) (.int .i64 t98) h_107 (load_cell (P := Try.prog) (h := h_107) (t := 23) (by kernel_rfl) e110) ?_
                        replace hF := lett_some hF; obtain ⟨t99, e112, hF⟩ := hF
                        refine WL.val (d := (some 99)) (v := .bool t99) (h' := h_107) (by kernel_rfl) (by kernel_rfl) (val_of AV.bool e112 (by kernel_rfl)) ?_
                        refine WL.a (some 8) (.bool t99) h_107 ?_
                        refine WL.n ?_
                        refine Go.weaken (l' := [(8, .bool t99)]) (Fr.c Fr.n) ?_
                        refine n109 ?_
                        refine W.ret (by kernel_rfl) ?_
                        obtain ⟨hF, hF2⟩ := ret_inj hF; subst hF; subst hF2
                        exact leave_of (rs := [.tmp 8]) (vs := [.bool t99]) (by kernel_rfl) (res_tmp (by kernel_rfl) res_nil) (by kernel_rfl)
                    cases t83 with
                    | true =>
                      replace hF := ifB_t hF
                      refine WL.o (some 85) ?_
                      refine WL.o (some 86) ?_
                      refine WL.o (some 87) ?_
                      refine WL.o (some 88) ?_
                      refine WL.a (some 89) (.bool true) h_82 ?_
                      exact WL.weaken (Fr.c (Fr.c (Fr.c (Fr.c Fr.n)))) (J97 _ _ hF)
                    | false =>
                      replace hF := ifB_f hF
                      refine WL.a (some 85) (.int .i64 t2) h_82 ?_
                      refine WL.a (some 86) (strA t31) h_82 ?_
                      refine WL.a (some 87) (.int .i64 (lenS t31)) h_82 ?_
                      replace hF := lett_some hF; obtain ⟨t88, e113, hF⟩ := hF
                      refine WL.val (d := (some 88)) (v := .bool t88) (h' := h_82) (by kernel_rfl) (by kernel_rfl) (val_of AV.bool e113 (by kernel_rfl)) ?_
                      refine WL.a (some 89) (.bool t88) h_82 ?_
                      exact WL.weaken (Fr.c (Fr.c (Fr.c (Fr.c Fr.n)))) (J97 _ _ hF)
              cases t55 with
              | true =>
                replace hF := ifB_t hF
                refine WL.o (some 57) ?_
                refine WL.o (some 58) ?_
                refine WL.o (some 59) ?_
                refine WL.o (some 60) ?_
                refine WL.o (some 61) ?_
                refine WL.o (some 62) ?_
                refine WL.o (some 63) ?_
                refine WL.o (some 64) ?_
                refine WL.o (some 65) ?_
                refine WL.o (some 66) ?_
                refine WL.o (some 67) ?_
                refine WL.a (some 68) (.bool true) h_67 ?_
                exact WL.weaken (Fr.c (Fr.c (Fr.c (Fr.c (Fr.c Fr.n))))) (J72 _ _ hF)
              | false =>
                replace hF := ifB_f hF
                refine WL.a (some 57) (.int .i64 t37) h_67 ?_
                replace hF := lett_some hF; obtain ⟨t58, e114, hF⟩ := hF
                refine WL.val (d := (some 58)) (v := .bool t58) (h' := h_67) (by kernel_rfl) (by kernel_rfl) (val_of AV.bool e114 (by kernel_rfl)) ?_
                refine WL.a (some 59) (.bool t58) h_67 ?_
                replace hF := lett_some hF; obtain ⟨j67, e116, hF⟩ := hF
                have J117 : ∀ (t67 : Bool) (h_115 : AHeap), j67 t67 h_115 = some (rR, hR) → WL Try.prog w0 m0 (Func.ntmps Try.f6) (Code.ops (Code.p1 (Code.p1 (Code.p2 (Code.p2 (Code.p2 (Code.p2 (Code.p2 (Code.p2 (Code.p2 (codeOf Try.f6))))))))))) 21 K63 [(2, .int .i64 t2), (3, strA t3), (9, strA t31), (14, (newP h_54)), (56, .bool false), (67, .bool t67)] [] h_115 := by
                  intro t67 h_115 hF
                  rw [e116] at hF
                  refine WL.a (some 68) (.bool t67) h_115 ?_
                  exact WL.weaken (Fr.c (Fr.c (Fr.c (Fr.c (Fr.c Fr.n))))) (J72 _ _ hF)
                cases t58 with
                | true =>
                  replace hF := ifB_t hF
                  refine WL.a (some 60) (strA t31) h_67 ?_
                  refine WL.a (some 61) (strA t36) h_67 ?_
                  replace hF := lett_some hF; obtain ⟨t62, e118, hF⟩ := hF
                  refine WL.val (d := (some 62)) (v := .bool t62) (h' := h_67) (by kernel_rfl) (by kernel_rfl) (val_of AV.bool e118 (by kernel_rfl)) ?_
                  replace hF := obind_some hF; obtain ⟨t63, e119, hF⟩ := hF
                  refine WL.b (some 63) (.agg t63) h_67 (load_row (P := Try.prog) (h := h_67) (t := 30) (by kernel_rfl) (by kernel_rfl) e119) ?_
                  replace hF := obind_some hF; obtain ⟨t64, e120, hF⟩ := hF
                  refine WL.b (some 64) (.agg t64) h_67 (load_row (P := Try.prog) (h := h_67) (t := 30) (by kernel_rfl) (by kernel_rfl) e120) ?_
                  replace hF := callN_some hF; obtain ⟨r65, h_121, e122, hF⟩ := hF
                  replace hF := obind_some hF; obtain ⟨t65, c123, hF⟩ := hF
                  have c123 := avBool_some c123
                  subst c123
                  refine WL.c (hc.ok w0) (some 65) e122 ?_
                  replace hF := lett_some hF; obtain ⟨t66, e124, hF⟩ := hF
                  refine WL.val (d := (some 66)) (v := .bool t66) (h' := h_121) (by kernel_rfl) (by kernel_rfl) (val_of AV.bool e124 (by kernel_rfl)) ?_
                  refine WL.a (some 67) (.bool t66) h_121 ?_
                  exact WL.weaken (Fr.c (Fr.c (Fr.c (Fr.c (Fr.c (Fr.c Fr.n)))))) (J117 _ _ hF)
                | false =>
                  replace hF := ifB_f hF
                  refine WL.o (some 60) ?_
                  refine WL.o (some 61) ?_
                  refine WL.o (some 62) ?_
                  refine WL.o (some 63) ?_
                  refine WL.o (some 64) ?_
                  refine WL.o (some 65) ?_
                  refine WL.o (some 66) ?_
                  refine WL.a (some 67) (.bool false) h_67 ?_
                  exact WL.weaken (Fr.c (Fr.c (Fr.c (Fr.c (Fr.c (Fr.c Fr.n)))))) (J117 _ _ hF)
            cases t49 with
            | true =>
              replace hF := ifB_t hF
              refine WL.o (some 51) ?_
              refine WL.o (some 52) ?_
              refine WL.o (some 53) ?_
              refine WL.o (some 54) ?_
              refine WL.a (some 55) (.bool true) h_60 ?_
              exact WL.weaken (Fr.c (Fr.c (Fr.c (Fr.c (Fr.c (Fr.c (Fr.c (Fr.c (Fr.c Fr.n))))))))) (J69 _ _ hF)
            | false =>
              replace hF := ifB_f hF
              replace hF := obind_some hF; obtain ⟨t51, e125, hF⟩ := hF
              refine WL.b (some 51) (.agg t51) h_60 (load_row (P := Try.prog) (h := h_60) (t := 30) (by kernel_rfl) (by kernel_rfl) e125) ?_
              replace hF := obind_some hF; obtain ⟨t52, e126, hF⟩ := hF
              refine WL.b (some 52) (.agg t52) h_60 (load_row (P := Try.prog) (h := h_60) (t := 30) (by kernel_rfl) (by kernel_rfl) e126) ?_
              replace hF := callN_some hF; obtain ⟨r53, h_127, e128, hF⟩ := hF
              replace hF := obind_some hF; obtain ⟨t53, c129, hF⟩ := hF
              have c129 := avBool_some c129
              subst c129
              refine WL.c (hc.ok w0) (some 53) e128 ?_
              replace hF := lett_some hF; obtain ⟨t54, e130, hF⟩ := hF
              refine WL.val (d := (some 54)) (v := .bool t54) (h' := h_127) (by kernel_rfl) (by kernel_rfl) (val_of AV.bool e130 (by kernel_rfl)) ?_
              refine WL.a (some 55) (.bool t54) h_127 ?_
              exact WL.weaken (Fr.c (Fr.c (Fr.c (Fr.c (Fr.c (Fr.c (Fr.c (Fr.c (Fr.c Fr.n))))))))) (J69 _ _ hF)
      cases t22 with
      | true =>
        replace hF := ifB_t hF
        refine WL.o (some 24) ?_
        refine WL.o (some 25) ?_
        refine WL.o (some 26) ?_
        refine WL.a (some 27) (.bool true) h_19 ?_
        exact WL.weaken (Fr.c (Fr.c (Fr.c (Fr.c (Fr.c Fr.n))))) (J24 _ _ hF)
      | false =>
        replace hF := ifB_f hF
        refine WL.a (some 24) (strA t3) h_19 ?_
        refine WL.a (some 25) (.int .i64 (lenS t3)) h_19 ?_
        replace hF := lett_some hF; obtain ⟨t26, e131, hF⟩ := hF
        refine WL.val (d := (some 26)) (v := .bool t26) (h' := h_19) (by kernel_rfl) (by kernel_rfl) (val_of AV.bool e131 (by kernel_rfl)) ?_
        refine WL.a (some 27) (.bool t26) h_19 ?_
        exact WL.weaken (Fr.c (Fr.c (Fr.c (Fr.c (Fr.c Fr.n))))) (J24 _ _ hF)
    cases t18 with
    | true =>
      replace hF := ifB_t hF
      refine WL.o (some 20) ?_
      refine WL.o (some 21) ?_
      refine WL.a (some 22) (.bool true) h_16 ?_
      exact WL.weaken (Fr.c (Fr.c (Fr.c (Fr.c (Fr.c Fr.n))))) (J21 _ _ hF)
    | false =>
      replace hF := ifB_f hF
      replace hF := obind_some hF; obtain ⟨t20, e132, hF⟩ := hF
      refine WL.b (some 20) (.agg t20) h_16 (load_row (P := Try.prog) (h := h_16) (t := 30) (by kernel_rfl) (by kernel_rfl) e132) ?_
      replace hF := callN_some hF; obtain ⟨r21, h_133, e134, hF⟩ := hF
      replace hF := obind_some hF; obtain ⟨t21, c135, hF⟩ := hF
      have c135 := avBool_some c135
      subst c135
      refine WL.c (hc.ok w0) (some 21) e134 ?_
      refine WL.a (some 22) (.bool t21) h_133 ?_
      exact WL.weaken (Fr.c (Fr.c (Fr.c (Fr.c (Fr.c Fr.n))))) (J21 _ _ hF)
noncomputable def law17_MessageBack_fn (call : CallF) (n : Nat) : FnT := fun args h => match args with
  | [x0, x1, x2, x3] => obind (avAgg x0) fun t0 => obind (avAgg x1) fun t1 => obind (avInt .i64 x2) fun t2 => obind (avStr x3) fun t3 => law17_MessageBack call n t0 t1 t2 t3 h
  | _ => none
set_option maxRecDepth 100000 in
theorem law17_MessageBack_fn_eq (call : CallF) (n : Nat) (t0 : List AV) (t1 : List AV) (t2 : Int) (t3 : Bytes) (h : AHeap) : law17_MessageBack_fn call n [.agg t0, .agg t1, .int .i64 t2, strA t3] h = law17_MessageBack call n t0 t1 t2 t3 h :=
  (Eq.trans (obind_eq (fun t0 => obind (avAgg (.agg t1)) fun t1 => obind (avInt .i64 (.int .i64 t2)) fun t2 => obind (avStr (strA t3)) fun t3 => law17_MessageBack call n t0 t1 t2 t3 h) (avAgg_agg t0)) (Eq.trans (obind_eq (fun t1 => obind (avInt .i64 (.int .i64 t2)) fun t2 => obind (avStr (strA t3)) fun t3 => law17_MessageBack call n t0 t1 t2 t3 h) (avAgg_agg t1)) (Eq.trans (obind_eq (fun t2 => obind (avStr (strA t3)) fun t3 => law17_MessageBack call n t0 t1 t2 t3 h) (avInt_int .i64 t2)) (Eq.trans (obind_eq (fun t3 => law17_MessageBack call n t0 t1 t2 t3 h) (avStr_str t3)) rfl))))
theorem law17_MessageBack_holds {call : CallF} (hc : SaysAll Try.prog call) (n : Nat) : Holds Try.prog 6 (law17_MessageBack_fn call n) := by
  intro args h r h2 e
  unfold law17_MessageBack_fn at e
  split at e
  · replace e := obind_some e; obtain ⟨t0, c0, e⟩ := e; have c0 := avAgg_some c0; subst c0
    replace e := obind_some e; obtain ⟨t1, c1, e⟩ := e; have c1 := avAgg_some c1; subst c1
    replace e := obind_some e; obtain ⟨t2, c2, e⟩ := e; have c2 := avInt_some c2; subst c2
    replace e := obind_some e; obtain ⟨t3, c3, e⟩ := e; have c3 := avStr_some c3; subst c3
    exact law17_MessageBack_ok hc e
  · cases e

end Go.Proofs.Ytmibgiblejpgdaa
