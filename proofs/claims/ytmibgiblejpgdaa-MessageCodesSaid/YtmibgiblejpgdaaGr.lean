/- Plain functions in place of the program's, and that their calls come to what they say. -/
import Derived.Test.YtmibgiblejpgdaaFrame
import Derived.Test.YtmibgiblejpgdaaAbs50
namespace Go.Proofs.Ytmibgiblejpgdaa
open Go.RowKit Abs

noncomputable def ref17_Check_L1b (r8 : AV) (k33 : AHeap → R) (self : Int → AHeap → R) (t4 : Int) (h_102 : AHeap) : R :=
  obind (lenL r8) fun t39 =>
  lett (decide (t4 < t39)) fun (t40 : Bool) =>
  ifB t40
  (
    obind (idxP 1 r8 t4) fun t45 =>
    obind (ldCell h_102 t45) fun v46 =>
    obind (avInt .i64 v46) fun t46 =>
    lett (decide (t46 < 0)) fun (t47 : Bool) =>
    lett (fun (t54 : Bool) (h_114 : AHeap) =>
      lett (fun (t65 : Bool) (h_117 : AHeap) =>
        ifB t65
        (
          some (.ret (.int .i64 2), h_117))
        (
          lett (IntKind.i64.wrap (t4 + 1)) fun (t42 : Int) =>
          self t42 h_117)) fun j65 =>
      ifB t54
      (
        j65 true h_114)
      (
        lett (decide (t4 < 2)) fun (t57 : Bool) =>
        lett (fun (t64 : Bool) (h_123 : AHeap) =>
          j65 t64 h_123) fun j64 =>
        ifB t57
        (
          obind (idxP 1 r8 t4) fun t61 =>
          obind (ldCell h_114 t61) fun v62 =>
          obind (avInt .i64 v62) fun t62 =>
          lett (decide (t62 > 15)) fun (t63 : Bool) =>
          j64 t63 h_114)
        (
          j64 false h_114))) fun j54 =>
    ifB t47
    (
      j54 true h_102)
    (
      obind (idxP 1 r8 t4) fun t51 =>
      obind (ldCell h_102 t51) fun v52 =>
      obind (avInt .i64 v52) fun t52 =>
      lett (decide (t52 > 1125899906842624)) fun (t53 : Bool) =>
      j54 t53 h_102))
  (
    k33 h_102)
noncomputable def ref17_Check_L1 (r8 : AV) (k33 : AHeap → R) : Nat → Int → AHeap → R := iterR (fun _ _ => none) (ref17_Check_L1b r8 k33)
theorem ref17_Check_L1_s (r8 : AV) (k33 : AHeap → R) (m : Nat) : ref17_Check_L1 r8 k33 (m + 1) = ref17_Check_L1b r8 k33 (ref17_Check_L1 r8 k33 m) := rfl
noncomputable def ref17_Check_L0b (v1 : AV) (k52 : AHeap → R) (self : Int → Int → AHeap → R) (t5 : Int) (t6 : Int) (h_56 : AHeap) : R :=
  obind (fldP 9 v1) fun t80 =>
  obind (ldCell h_56 t80) fun v81 =>
  obind (lenL v81) fun t82 =>
  lett (decide (t6 < t82)) fun (t83 : Bool) =>
  ifB t83
  (
    obind (fldP 9 v1) fun t86 =>
    obind (ldCell h_56 t86) fun v87 =>
    obind (idxP 2 v87 t6) fun t89 =>
    obind (fldP 0 t89) fun t90 =>
    obind (ldCell h_56 t90) fun v91 =>
    obind (avInt .i64 v91) fun t91 =>
    lett (decide (t91 < 0)) fun (t92 : Bool) =>
    lett (fun (t101 : Bool) (h_74 : AHeap) =>
      ifB t101
      (
        some (.ret (.int .i64 2), h_74))
      (
        obind (fldP 9 v1) fun t103 =>
        obind (ldCell h_74 t103) fun v104 =>
        obind (idxP 2 v104 t6) fun t106 =>
        obind (fldP 1 t106) fun t107 =>
        obind (ldCell h_74 t107) fun v108 =>
        obind (avStr v108) fun t108 =>
        lett (IntKind.i64.wrap (t5 + (lenS t108))) fun (t110 : Int) =>
        lett (decide (t110 > 3500)) fun (t112 : Bool) =>
        ifB t112
        (
          some (.ret (.int .i64 3), h_74))
        (
          lett (IntKind.i64.wrap (t6 + 1)) fun (t85 : Int) =>
          self t110 t85 h_74))) fun j101 =>
    ifB t92
    (
      j101 true h_56)
    (
      obind (fldP 9 v1) fun t94 =>
      obind (ldCell h_56 t94) fun v95 =>
      obind (idxP 2 v95 t6) fun t97 =>
      obind (fldP 0 t97) fun t98 =>
      obind (ldCell h_56 t98) fun v99 =>
      obind (avInt .i64 v99) fun t99 =>
      lett (decide (t99 > 1125899906842624)) fun (t100 : Bool) =>
      j101 t100 h_56))
  (
    k52 h_56)
noncomputable def ref17_Check_L0 (v1 : AV) (k52 : AHeap → R) : Nat → Int → Int → AHeap → R := iterR (fun _ _ _ => none) (ref17_Check_L0b v1 k52)
theorem ref17_Check_L0_s (v1 : AV) (k52 : AHeap → R) (m : Nat) : ref17_Check_L0 v1 k52 (m + 1) = ref17_Check_L0b v1 k52 (ref17_Check_L0 v1 k52 m) := rfl
noncomputable def ref17_Check (call : CallF) (n : Nat) (t0 : List AV) (h : AHeap) : R :=
  outK (opBox h 30 (some (.agg t0))) fun v1 h_2 =>
  obind (ldRow h_2 22 v1) fun t7 =>
  callN (call 34 [.agg t7] h_2) fun r8 h_6 =>
  obind (fldP 0 v1) fun t9 =>
  obind (ldCell h_6 t9) fun v10 =>
  obind (avInt .u8 v10) fun t10 =>
  lett (decide (t10 < 1)) fun (t11 : Bool) =>
  lett (fun (t16 : Bool) (h_14 : AHeap) =>
    lett (fun (t21 : Bool) (h_17 : AHeap) =>
      lett (fun (t26 : Bool) (h_20 : AHeap) =>
        lett (fun (t31 : Bool) (h_23 : AHeap) =>
          lett (fun (t36 : Bool) (h_26 : AHeap) =>
            ifB t36
            (
              some (.ret (.int .i64 2), h_26))
            (
              lett (fun  (h_34 : AHeap) =>
                obind (fldP 9 v1) fun t66 =>
                obind (ldCell h_34 t66) fun v67 =>
                obind (lenL v67) fun t68 =>
                lett (decide (t68 > 4)) fun (t69 : Bool) =>
                lett (fun (t75 : Bool) (h_41 : AHeap) =>
                  ifB t75
                  (
                    some (.ret (.int .i64 3), h_41))
                  (
                    obind (fldP 12 v1) fun t76 =>
                    obind (ldCell h_41 t76) fun v77 =>
                    obind (avStr v77) fun t77 =>
                    lett (fun  (h_53 : AHeap) =>
                      some (.ret (.int .i64 0), h_53)) fun k52 =>
                    ref17_Check_L0 v1 k52 n (lenS t77) 0 h_41)) fun j75 =>
                ifB t69
                (
                  j75 true h_34)
                (
                  obind (fldP 12 v1) fun t71 =>
                  obind (ldCell h_34 t71) fun v72 =>
                  obind (avStr v72) fun t72 =>
                  lett (decide ((lenS t72) > 3500)) fun (t74 : Bool) =>
                  j75 t74 h_34)) fun k33 =>
              ref17_Check_L1 r8 k33 n 0 h_26)) fun j36 =>
          ifB t31
          (
            j36 true h_23)
          (
            obind (fldP 21 v1) fun t33 =>
            obind (ldCell h_23 t33) fun v34 =>
            obind (avInt .i64 v34) fun t34 =>
            lett (decide (t34 > 3)) fun (t35 : Bool) =>
            j36 t35 h_23)) fun j31 =>
        ifB t26
        (
          j31 true h_20)
        (
          obind (fldP 21 v1) fun t28 =>
          obind (ldCell h_20 t28) fun v29 =>
          obind (avInt .i64 v29) fun t29 =>
          lett (decide (t29 < 0)) fun (t30 : Bool) =>
          j31 t30 h_20)) fun j26 =>
      ifB t21
      (
        j26 true h_17)
      (
        obind (fldP 20 v1) fun t23 =>
        obind (ldCell h_17 t23) fun v24 =>
        obind (avInt .i64 v24) fun t24 =>
        lett (decide (t24 > 999)) fun (t25 : Bool) =>
        j26 t25 h_17)) fun j21 =>
    ifB t16
    (
      j21 true h_14)
    (
      obind (fldP 20 v1) fun t18 =>
      obind (ldCell h_14 t18) fun v19 =>
      obind (avInt .i64 v19) fun t19 =>
      lett (decide (t19 < 0)) fun (t20 : Bool) =>
      j21 t20 h_14)) fun j16 =>
  ifB t11
  (
    j16 true h_6)
  (
    obind (fldP 0 v1) fun t13 =>
    obind (ldCell h_6 t13) fun v14 =>
    obind (avInt .u8 v14) fun t14 =>
    lett (decide (t14 > 14)) fun (t15 : Bool) =>
    j16 t15 h_6)
set_option maxHeartbeats 4000000 in
set_option maxRecDepth 20000 in
theorem ref17_Check_ok {call : CallF} (hc : SaysAll Try.prog call) {n : Nat} {t0 : List AV} {h : AHeap} {rR : ARes} {hR : AHeap} (hF : ref17_Check call n t0 h = some (rR, hR)) : Says Try.prog 16 [.agg t0] h rR hR := by
  unfold ref17_Check at hF
  refine says_of (fn := Try.f16) Try.func16 (c := codeOf Try.f16) (by kernel_rfl) (by kernel_rfl) (fun w0 m0 => ?_)
  refine W.weaken (l' := [(0, .agg t0)]) (Fr.c Fr.n) ?_
  refine W.s (fun K1 n1 e1 q1 p1 => ?_)
  refine W.r ?_
  replace hF := outK_some hF; obtain ⟨v1, h_2, e3, hF⟩ := hF
  refine WL.b (some 1) v1 h_2 e3 ?_
  refine WL.a (some 2) (.int .i64 0) h_2 ?_
  refine WL.n ?_
  refine Go.weaken (l' := [(1, v1)]) (Fr.c Fr.n) ?_
  refine n1 ?_
  refine W.s (fun K4 n4 e4 q4 p4 => ?_)
  refine W.r ?_
  replace hF := obind_some hF; obtain ⟨t7, e5, hF⟩ := hF
  refine WL.b (some 7) (.agg t7) h_2 (load_row (P := Try.prog) (h := h_2) (t := 30) (by kernel_rfl) (by kernel_rfl) e5) ?_
  replace hF := callN_some hF; obtain ⟨r8, h_6, e7, hF⟩ := hF
  refine WL.c (hc.ok w0) (some 8) e7 ?_
  refine WL.a (some 3) r8 h_6 ?_
  refine WL.n ?_
  refine Go.weaken (l' := [(1, v1), (3, r8)]) (Fr.c (Fr.c Fr.n)) ?_
  refine n4 ?_
  refine W.s (fun K8 n8 e8 q8 p8 => ?_)
  refine W.s (fun K9 n9 e9 q9 p9 => ?_)
  refine W.r ?_
  replace hF := obind_some hF; obtain ⟨t9, e10, hF⟩ := hF
  refine WL.b (some 9) t9 h_6 (field_ptr (P := Try.prog) (h := h_6) (s := 30) (f := 0) (by kernel_rfl) e10) ?_
  replace hF := obind_some hF; obtain ⟨v10, e11, hF⟩ := hF
  replace hF := obind_some hF; obtain ⟨t10, c12, hF⟩ := hF
  have c12 := avInt_some c12
  subst c12
  refine WL.b (some 10) (.int .u8 t10) h_6 (load_cell (P := Try.prog) (h := h_6) (t := 5) (by kernel_rfl) e11) ?_
  replace hF := lett_some hF; obtain ⟨t11, e13, hF⟩ := hF
  refine WL.val (d := (some 11)) (v := .bool t11) (h' := h_6) (by kernel_rfl) (by kernel_rfl) (val_of AV.bool e13 (by kernel_rfl)) ?_
  refine WL.a (some 12) (.bool t11) h_6 ?_
  replace hF := lett_some hF; obtain ⟨j16, e15, hF⟩ := hF
  have J16 : ∀ (t16 : Bool) (h_14 : AHeap), j16 t16 h_14 = some (rR, hR) → WL Try.prog w0 m0 (Func.ntmps Try.f16) (Code.ops (Code.p1 (Code.p1 (Code.p2 (Code.p2 (codeOf Try.f16)))))) 8 K9 [(1, v1), (3, r8), (16, .bool t16)] [] h_14 := by
    intro t16 h_14 hF
    rw [e15] at hF
    refine WL.a (some 17) (.bool t16) h_14 ?_
    replace hF := lett_some hF; obtain ⟨j21, e18, hF⟩ := hF
    have J19 : ∀ (t21 : Bool) (h_17 : AHeap), j21 t21 h_17 = some (rR, hR) → WL Try.prog w0 m0 (Func.ntmps Try.f16) (Code.ops (Code.p1 (Code.p1 (Code.p2 (Code.p2 (codeOf Try.f16)))))) 13 K9 [(1, v1), (3, r8), (21, .bool t21)] [] h_17 := by
      intro t21 h_17 hF
      rw [e18] at hF
      refine WL.a (some 22) (.bool t21) h_17 ?_
      replace hF := lett_some hF; obtain ⟨j26, e21, hF⟩ := hF
      have J22 : ∀ (t26 : Bool) (h_20 : AHeap), j26 t26 h_20 = some (rR, hR) → WL Try.prog w0 m0 (Func.ntmps Try.f16) (Code.ops (Code.p1 (Code.p1 (Code.p2 (Code.p2 (codeOf Try.f16)))))) 18 K9 [(1, v1), (3, r8), (26, .bool t26)] [] h_20 := by
        intro t26 h_20 hF
        rw [e21] at hF
        refine WL.a (some 27) (.bool t26) h_20 ?_
        replace hF := lett_some hF; obtain ⟨j31, e24, hF⟩ := hF
        have J25 : ∀ (t31 : Bool) (h_23 : AHeap), j31 t31 h_23 = some (rR, hR) → WL Try.prog w0 m0 (Func.ntmps Try.f16) (Code.ops (Code.p1 (Code.p1 (Code.p2 (Code.p2 (codeOf Try.f16)))))) 23 K9 [(1, v1), (3, r8), (31, .bool t31)] [] h_23 := by
          intro t31 h_23 hF
          rw [e24] at hF
          refine WL.a (some 32) (.bool t31) h_23 ?_
          replace hF := lett_some hF; obtain ⟨j36, e27, hF⟩ := hF
          have J28 : ∀ (t36 : Bool) (h_26 : AHeap), j36 t36 h_26 = some (rR, hR) → WL Try.prog w0 m0 (Func.ntmps Try.f16) (Code.ops (Code.p1 (Code.p1 (Code.p2 (Code.p2 (codeOf Try.f16)))))) 28 K9 [(1, v1), (3, r8), (36, .bool t36)] [] h_26 := by
            intro t36 h_26 hF
            rw [e27] at hF
            refine WL.n ?_
            refine Go.weaken (l' := [(1, v1), (3, r8), (36, .bool t36)]) (Fr.c (Fr.c (Fr.c Fr.n))) ?_
            refine n9 ?_
            cases t36 with
            | true =>
              replace hF := ifB_t hF
              refine W.t ?_
              refine W.s (fun K29 n29 e29 q29 p29 => ?_)
              refine W.r ?_
              refine WL.a (some 2) (.int .i64 2) h_26 ?_
              refine WL.n ?_
              refine Go.weaken (l' := [(2, .int .i64 2)]) (Fr.c Fr.n) ?_
              refine n29 ?_
              refine W.ret (by kernel_rfl) ?_
              refine q8 ?_
              obtain ⟨hF, hF2⟩ := ret_inj hF; subst hF; subst hF2
              exact leave_of (rs := [.tmp 2]) (vs := [.int .i64 2]) (by kernel_rfl) (res_tmp (by kernel_rfl) res_nil) (by kernel_rfl)
            | false =>
              replace hF := ifB_f hF
              refine W.f ?_
              refine W.skip (by kernel_rfl) ?_
              refine n8 ?_
              refine W.s (fun K30 n30 e30 q30 p30 => ?_)
              refine W.s (fun K31 n31 e31 q31 p31 => ?_)
              refine W.r ?_
              refine WL.a (some 4) (.int .i64 0) h_26 ?_
              refine WL.n ?_
              refine Go.weaken (l' := [(1, v1), (3, r8), (4, .int .i64 0)]) (Fr.c (Fr.c (Fr.c Fr.n))) ?_
              refine n31 ?_
              replace hF := lett_some hF; obtain ⟨k33, e33, hF⟩ := hF
              have J33 : ∀  (h_34 : AHeap), k33 h_34 = some (rR, hR) → Go w0 m0 (Func.ntmps Try.f16) (K30 .normal) [(1, v1)] [] h_34 := by
                intro  h_34 hF
                rw [e33] at hF
                refine n30 ?_
                refine W.s (fun K35 n35 e35 q35 p35 => ?_)
                refine W.s (fun K36 n36 e36 q36 p36 => ?_)
                refine W.r ?_
                replace hF := obind_some hF; obtain ⟨t66, e37, hF⟩ := hF
                refine WL.b (some 66) t66 h_34 (field_ptr (P := Try.prog) (h := h_34) (s := 30) (f := 9) (by kernel_rfl) e37) ?_
                replace hF := obind_some hF; obtain ⟨v67, e38, hF⟩ := hF
                refine WL.b (some 67) v67 h_34 (load_cell (P := Try.prog) (h := h_34) (t := 26) (by kernel_rfl) e38) ?_
                replace hF := obind_some hF; obtain ⟨t68, e39, hF⟩ := hF
                refine WL.b (some 68) (.int .i64 t68) h_34 (len_row (P := Try.prog) (h := h_34) (t := 26) (e' := 42) (by kernel_rfl) e39) ?_
                replace hF := lett_some hF; obtain ⟨t69, e40, hF⟩ := hF
                refine WL.val (d := (some 69)) (v := .bool t69) (h' := h_34) (by kernel_rfl) (by kernel_rfl) (val_of AV.bool e40 (by kernel_rfl)) ?_
                refine WL.a (some 70) (.bool t69) h_34 ?_
                replace hF := lett_some hF; obtain ⟨j75, e42, hF⟩ := hF
                have J43 : ∀ (t75 : Bool) (h_41 : AHeap), j75 t75 h_41 = some (rR, hR) → WL Try.prog w0 m0 (Func.ntmps Try.f16) (Code.ops (Code.p1 (Code.p1 (Code.p2 (Code.p2 (Code.p2 (Code.p2 (codeOf Try.f16)))))))) 10 K36 [(1, v1), (75, .bool t75)] [] h_41 := by
                  intro t75 h_41 hF
                  rw [e42] at hF
                  refine WL.n ?_
                  refine Go.weaken (l' := [(1, v1), (75, .bool t75)]) (Fr.c (Fr.c Fr.n)) ?_
                  refine n36 ?_
                  cases t75 with
                  | true =>
                    replace hF := ifB_t hF
                    refine W.t ?_
                    refine W.s (fun K44 n44 e44 q44 p44 => ?_)
                    refine W.r ?_
                    refine WL.a (some 2) (.int .i64 3) h_41 ?_
                    refine WL.n ?_
                    refine Go.weaken (l' := [(2, .int .i64 3)]) (Fr.c Fr.n) ?_
                    refine n44 ?_
                    refine W.ret (by kernel_rfl) ?_
                    refine q35 ?_
                    obtain ⟨hF, hF2⟩ := ret_inj hF; subst hF; subst hF2
                    exact leave_of (rs := [.tmp 2]) (vs := [.int .i64 3]) (by kernel_rfl) (res_tmp (by kernel_rfl) res_nil) (by kernel_rfl)
                  | false =>
                    replace hF := ifB_f hF
                    refine W.f ?_
                    refine W.skip (by kernel_rfl) ?_
                    refine n35 ?_
                    refine W.s (fun K45 n45 e45 q45 p45 => ?_)
                    refine W.r ?_
                    replace hF := obind_some hF; obtain ⟨t76, e46, hF⟩ := hF
                    refine WL.b (some 76) t76 h_41 (field_ptr (P := Try.prog) (h := h_41) (s := 30) (f := 12) (by kernel_rfl) e46) ?_
                    replace hF := obind_some hF; obtain ⟨v77, e47, hF⟩ := hF
                    replace hF := obind_some hF; obtain ⟨t77, c48, hF⟩ := hF
                    have c48 := avStr_some c48
                    subst c48
                    refine WL.b (some 77) (strA t77) h_41 (load_cell (P := Try.prog) (h := h_41) (t := 9) (by kernel_rfl) e47) ?_
                    refine WL.a (some 78) (.int .i64 (lenS t77)) h_41 ?_
                    refine WL.a (some 5) (.int .i64 (lenS t77)) h_41 ?_
                    refine WL.n ?_
                    refine Go.weaken (l' := [(1, v1), (5, .int .i64 (lenS t77))]) (Fr.c (Fr.c Fr.n)) ?_
                    refine n45 ?_
                    refine W.s (fun K49 n49 e49 q49 p49 => ?_)
                    refine W.s (fun K50 n50 e50 q50 p50 => ?_)
                    refine W.r ?_
                    refine WL.a (some 6) (.int .i64 0) h_41 ?_
                    refine WL.n ?_
                    refine Go.weaken (l' := [(1, v1), (5, .int .i64 (lenS t77)), (6, .int .i64 0)]) (Fr.c (Fr.c (Fr.c Fr.n))) ?_
                    refine n50 ?_
                    replace hF := lett_some hF; obtain ⟨k52, e52, hF⟩ := hF
                    have J52 : ∀  (h_53 : AHeap), k52 h_53 = some (rR, hR) → Go w0 m0 (Func.ntmps Try.f16) (K49 .normal) [] [] h_53 := by
                      intro  h_53 hF
                      rw [e52] at hF
                      refine n49 ?_
                      refine W.s (fun K54 n54 e54 q54 p54 => ?_)
                      refine W.r ?_
                      refine WL.a (some 2) (.int .i64 0) h_53 ?_
                      refine WL.n ?_
                      refine Go.weaken (l' := [(2, .int .i64 0)]) (Fr.c Fr.n) ?_
                      refine n54 ?_
                      refine W.ret (by kernel_rfl) ?_
                      obtain ⟨hF, hF2⟩ := ret_inj hF; subst hF; subst hF2
                      exact leave_of (rs := [.tmp 2]) (vs := [.int .i64 0]) (by kernel_rfl) (res_tmp (by kernel_rfl) res_nil) (by kernel_rfl)
                    refine W.blockK (by kernel_rfl) (fun K51 n51 s51 o51 q51 p51 => ?_)
                    refine W.loopK (by kernel_rfl) (fun I55 K55 b55 n55 e55 q55 p55 => ?_)
                    have L55 : ∀ (m : Nat) (t5 : Int) (t6 : Int) (h_56 : AHeap), ref17_Check_L0 v1 k52 m t5 t6 h_56 = some (rR, hR) → Go w0 m0 (Func.ntmps Try.f16) I55 [(1, v1), (5, .int .i64 t5), (6, .int .i64 t6)] [] h_56 := by
                      intro m
                      induction m with
                      | zero => intro t5 t6 h_56 hF; cases hF
                      | succ m ih55 =>
                        intro t5 t6 h_56 hF
                        rw [ref17_Check_L0_s] at hF; unfold ref17_Check_L0b at hF
                        refine b55 ?_
                        refine W.s (fun K57 n57 e57 q57 p57 => ?_)
                        refine W.s (fun K58 n58 e58 q58 p58 => ?_)
                        refine W.r ?_
                        refine WL.a (some 79) (.int .i64 t6) h_56 ?_
                        replace hF := obind_some hF; obtain ⟨t80, e59, hF⟩ := hF
                        refine WL.b (some 80) t80 h_56 (field_ptr (P := Try.prog) (h := h_56) (s := 30) (f := 9) (by kernel_rfl) e59) ?_
                        replace hF := obind_some hF; obtain ⟨v81, e60, hF⟩ := hF
                        refine WL.b (some 81) v81 h_56 (load_cell (P := Try.prog) (h := h_56) (t := 26) (by kernel_rfl) e60) ?_
                        replace hF := obind_some hF; obtain ⟨t82, e61, hF⟩ := hF
                        refine WL.b (some 82) (.int .i64 t82) h_56 (len_row (P := Try.prog) (h := h_56) (t := 26) (e' := 42) (by kernel_rfl) e61) ?_
                        replace hF := lett_some hF; obtain ⟨t83, e62, hF⟩ := hF
                        refine WL.val (d := (some 83)) (v := .bool t83) (h' := h_56) (by kernel_rfl) (by kernel_rfl) (val_of AV.bool e62 (by kernel_rfl)) ?_
                        refine WL.n ?_
                        refine Go.weaken (l' := [(1, v1), (5, .int .i64 t5), (6, .int .i64 t6), (83, .bool t83)]) (Fr.c (Fr.c (Fr.c (Fr.c Fr.n)))) ?_
                        refine n58 ?_
                        cases t83 with
                        | true =>
                          replace hF := ifB_t hF
                          refine W.t ?_
                          refine W.skip (by kernel_rfl) ?_
                          refine n57 ?_
                          refine W.s (fun K63 n63 e63 q63 p63 => ?_)
                          refine W.blockK (by kernel_rfl) (fun K64 n64 s64 o64 q64 p64 => ?_)
                          refine W.s (fun K65 n65 e65 q65 p65 => ?_)
                          refine W.s (fun K66 n66 e66 q66 p66 => ?_)
                          refine W.r ?_
                          replace hF := obind_some hF; obtain ⟨t86, e67, hF⟩ := hF
                          refine WL.b (some 86) t86 h_56 (field_ptr (P := Try.prog) (h := h_56) (s := 30) (f := 9) (by kernel_rfl) e67) ?_
                          replace hF := obind_some hF; obtain ⟨v87, e68, hF⟩ := hF
                          refine WL.b (some 87) v87 h_56 (load_cell (P := Try.prog) (h := h_56) (t := 26) (by kernel_rfl) e68) ?_
                          refine WL.a (some 88) (.int .i64 t6) h_56 ?_
                          replace hF := obind_some hF; obtain ⟨t89, e69, hF⟩ := hF
                          refine WL.b (some 89) t89 h_56 (index_row (P := Try.prog) (h := h_56) (t := 26) (e' := 42) (k := .i64) (by kernel_rfl) (by kernel_rfl) (by kernel_rfl) e69) ?_
                          replace hF := obind_some hF; obtain ⟨t90, e70, hF⟩ := hF
                          refine WL.b (some 90) t90 h_56 (field_ptr (P := Try.prog) (h := h_56) (s := 42) (f := 0) (by kernel_rfl) e70) ?_
                          replace hF := obind_some hF; obtain ⟨v91, e71, hF⟩ := hF
                          replace hF := obind_some hF; obtain ⟨t91, c72, hF⟩ := hF
                          have c72 := avInt_some c72
                          subst c72
                          refine WL.b (some 91) (.int .i64 t91) h_56 (load_cell (P := Try.prog) (h := h_56) (t := 3) (by kernel_rfl) e71) ?_
                          replace hF := lett_some hF; obtain ⟨t92, e73, hF⟩ := hF
                          refine WL.val (d := (some 92)) (v := .bool t92) (h' := h_56) (by kernel_rfl) (by kernel_rfl) (val_of AV.bool e73 (by kernel_rfl)) ?_
                          refine WL.a (some 93) (.bool t92) h_56 ?_
                          replace hF := lett_some hF; obtain ⟨j101, e75, hF⟩ := hF
                          have J76 : ∀ (t101 : Bool) (h_74 : AHeap), j101 t101 h_74 = some (rR, hR) → WL Try.prog w0 m0 (Func.ntmps Try.f16) (Code.ops (Code.p1 (Code.p1 (Code.p1 (Code.p1 (Code.p2 (Code.p1 (Code.p1 (Code.p2 (Code.p1 (Code.p2 (Code.p2 (Code.p2 (Code.p2 (Code.p2 (Code.p2 (codeOf Try.f16))))))))))))))))) 16 K66 [(1, v1), (5, .int .i64 t5), (6, .int .i64 t6), (101, .bool t101)] [] h_74 := by
                            intro t101 h_74 hF
                            rw [e75] at hF
                            refine WL.n ?_
                            refine Go.weaken (l' := [(1, v1), (5, .int .i64 t5), (6, .int .i64 t6), (101, .bool t101)]) (Fr.c (Fr.c (Fr.c (Fr.c Fr.n)))) ?_
                            refine n66 ?_
                            cases t101 with
                            | true =>
                              replace hF := ifB_t hF
                              refine W.t ?_
                              refine W.s (fun K77 n77 e77 q77 p77 => ?_)
                              refine W.r ?_
                              refine WL.a (some 2) (.int .i64 2) h_74 ?_
                              refine WL.n ?_
                              refine Go.weaken (l' := [(2, .int .i64 2)]) (Fr.c Fr.n) ?_
                              refine n77 ?_
                              refine W.ret (by kernel_rfl) ?_
                              refine q65 ?_
                              refine q64 ?_
                              refine q63 ?_
                              refine q55 ?_
                              refine q51 ?_
                              refine q49 ?_
                              obtain ⟨hF, hF2⟩ := ret_inj hF; subst hF; subst hF2
                              exact leave_of (rs := [.tmp 2]) (vs := [.int .i64 2]) (by kernel_rfl) (res_tmp (by kernel_rfl) res_nil) (by kernel_rfl)
                            | false =>
                              replace hF := ifB_f hF
                              refine W.f ?_
                              refine W.skip (by kernel_rfl) ?_
                              refine n65 ?_
                              refine W.s (fun K78 n78 e78 q78 p78 => ?_)
                              refine W.r ?_
                              refine WL.a (some 102) (.int .i64 t5) h_74 ?_
                              replace hF := obind_some hF; obtain ⟨t103, e79, hF⟩ := hF
                              refine WL.b (some 103) t103 h_74 (field_ptr (P := Try.prog) (h := h_74) (s := 30) (f := 9) (by kernel_rfl) e79) ?_
                              replace hF := obind_some hF; obtain ⟨v104, e80, hF⟩ := hF
                              refine WL.b (some 104) v104 h_74 (load_cell (P := Try.prog) (h := h_74) (t := 26) (by kernel_rfl) e80) ?_
                              refine WL.a (some 105) (.int .i64 t6) h_74 ?_
                              replace hF := obind_some hF; obtain ⟨t106, e81, hF⟩ := hF
                              refine WL.b (some 106) t106 h_74 (index_row (P := Try.prog) (h := h_74) (t := 26) (e' := 42) (k := .i64) (by kernel_rfl) (by kernel_rfl) (by kernel_rfl) e81) ?_
                              replace hF := obind_some hF; obtain ⟨t107, e82, hF⟩ := hF
                              refine WL.b (some 107) t107 h_74 (field_ptr (P := Try.prog) (h := h_74) (s := 42) (f := 1) (by kernel_rfl) e82) ?_
                              replace hF := obind_some hF; obtain ⟨v108, e83, hF⟩ := hF
                              replace hF := obind_some hF; obtain ⟨t108, c84, hF⟩ := hF
                              have c84 := avStr_some c84
                              subst c84
                              refine WL.b (some 108) (strA t108) h_74 (load_cell (P := Try.prog) (h := h_74) (t := 9) (by kernel_rfl) e83) ?_
                              refine WL.a (some 109) (.int .i64 (lenS t108)) h_74 ?_
                              replace hF := lett_some hF; obtain ⟨t110, e85, hF⟩ := hF
                              refine WL.val (d := (some 110)) (v := .int .i64 t110) (h' := h_74) (by kernel_rfl) (by kernel_rfl) (val_of (AV.int .i64) e85 (by kernel_rfl)) ?_
                              refine WL.a (some 5) (.int .i64 t110) h_74 ?_
                              refine WL.n ?_
                              refine Go.weaken (l' := [(1, v1), (5, .int .i64 t110), (6, .int .i64 t6)]) (Fr.c (Fr.c (Fr.c Fr.n))) ?_
                              refine n78 ?_
                              refine W.s (fun K86 n86 e86 q86 p86 => ?_)
                              refine W.r ?_
                              refine WL.a (some 111) (.int .i64 t110) h_74 ?_
                              replace hF := lett_some hF; obtain ⟨t112, e87, hF⟩ := hF
                              refine WL.val (d := (some 112)) (v := .bool t112) (h' := h_74) (by kernel_rfl) (by kernel_rfl) (val_of AV.bool e87 (by kernel_rfl)) ?_
                              refine WL.n ?_
                              refine Go.weaken (l' := [(1, v1), (5, .int .i64 t110), (6, .int .i64 t6), (112, .bool t112)]) (Fr.c (Fr.c (Fr.c (Fr.c Fr.n)))) ?_
                              refine n86 ?_
                              cases t112 with
                              | true =>
                                replace hF := ifB_t hF
                                refine W.t ?_
                                refine W.s (fun K88 n88 e88 q88 p88 => ?_)
                                refine W.r ?_
                                refine WL.a (some 2) (.int .i64 3) h_74 ?_
                                refine WL.n ?_
                                refine Go.weaken (l' := [(2, .int .i64 3)]) (Fr.c Fr.n) ?_
                                refine n88 ?_
                                refine W.ret (by kernel_rfl) ?_
                                refine q64 ?_
                                refine q63 ?_
                                refine q55 ?_
                                refine q51 ?_
                                refine q49 ?_
                                obtain ⟨hF, hF2⟩ := ret_inj hF; subst hF; subst hF2
                                exact leave_of (rs := [.tmp 2]) (vs := [.int .i64 3]) (by kernel_rfl) (res_tmp (by kernel_rfl) res_nil) (by kernel_rfl)
                              | false =>
                                replace hF := ifB_f hF
                                refine W.f ?_
                                refine W.skip (by kernel_rfl) ?_
                                refine n64 ?_
                                refine n63 ?_
                                refine W.r ?_
                                refine WL.a (some 84) (.int .i64 t6) h_74 ?_
                                replace hF := lett_some hF; obtain ⟨t85, e89, hF⟩ := hF
                                refine WL.val (d := (some 85)) (v := .int .i64 t85) (h' := h_74) (by kernel_rfl) (by kernel_rfl) (val_of (AV.int .i64) e89 (by kernel_rfl)) ?_
                                refine WL.a (some 6) (.int .i64 t85) h_74 ?_
                                refine WL.n ?_
                                refine Go.weaken (l' := [(1, v1), (5, .int .i64 t110), (6, .int .i64 t85)]) (Fr.c (Fr.c (Fr.c Fr.n))) ?_
                                refine n55 ?_
                                exact Go.weaken (Fr.c (Fr.c (Fr.c Fr.n))) (ih55 _ _ _ hF)
                          cases t92 with
                          | true =>
                            replace hF := ifB_t hF
                            refine WL.o (some 94) ?_
                            refine WL.o (some 95) ?_
                            refine WL.o (some 96) ?_
                            refine WL.o (some 97) ?_
                            refine WL.o (some 98) ?_
                            refine WL.o (some 99) ?_
                            refine WL.o (some 100) ?_
                            refine WL.a (some 101) (.bool true) h_56 ?_
                            exact WL.weaken (Fr.c (Fr.c (Fr.c (Fr.c Fr.n)))) (J76 _ _ hF)
                          | false =>
                            replace hF := ifB_f hF
                            replace hF := obind_some hF; obtain ⟨t94, e90, hF⟩ := hF
                            refine WL.b (some 94) t94 h_56 (field_ptr (P := Try.prog) (h := h_56) (s := 30) (f := 9) (by kernel_rfl) e90) ?_
                            replace hF := obind_some hF; obtain ⟨v95, e91, hF⟩ := hF
                            refine WL.b (some 95) v95 h_56 (load_cell (P := Try.prog) (h := h_56) (t := 26) (by kernel_rfl) e91) ?_
                            refine WL.a (some 96) (.int .i64 t6) h_56 ?_
                            replace hF := obind_some hF; obtain ⟨t97, e92, hF⟩ := hF
                            refine WL.b (some 97) t97 h_56 (index_row (P := Try.prog) (h := h_56) (t := 26) (e' := 42) (k := .i64) (by kernel_rfl) (by kernel_rfl) (by kernel_rfl) e92) ?_
                            replace hF := obind_some hF; obtain ⟨t98, e93, hF⟩ := hF
                            refine WL.b (some 98) t98 h_56 (field_ptr (P := Try.prog) (h := h_56) (s := 42) (f := 0) (by kernel_rfl) e93) ?_
                            replace hF := obind_some hF; obtain ⟨v99, e94, hF⟩ := hF
                            replace hF := obind_some hF; obtain ⟨t99, c95, hF⟩ := hF
                            have c95 := avInt_some c95
                            subst c95
                            refine WL.b (some 99) (.int .i64 t99) h_56 (load_cell (P := Try.prog) (h := h_56) (t := 3) (by kernel_rfl) e94) ?_
                            replace hF := lett_some hF; obtain ⟨t100, e96, hF⟩ := hF
                            refine WL.val (d := (some 100)) (v := .bool t100) (h' := h_56) (by kernel_rfl) (by kernel_rfl) (val_of AV.bool e96 (by kernel_rfl)) ?_
                            refine WL.a (some 101) (.bool t100) h_56 ?_
                            exact WL.weaken (Fr.c (Fr.c (Fr.c (Fr.c Fr.n)))) (J76 _ _ hF)
                        | false =>
                          replace hF := ifB_f hF
                          refine W.f ?_
                          refine W.exit (by kernel_rfl) ?_
                          refine e57 ?_
                          refine e55 ?_
                          refine s51 (by kernel_rfl) ?_
                          exact Go.weaken Fr.n (J52 _ hF)
                    exact Go.weaken (Fr.c (Fr.c (Fr.c Fr.n))) (L55 _ _ _ _ hF)
                cases t69 with
                | true =>
                  replace hF := ifB_t hF
                  refine WL.o (some 71) ?_
                  refine WL.o (some 72) ?_
                  refine WL.o (some 73) ?_
                  refine WL.o (some 74) ?_
                  refine WL.a (some 75) (.bool true) h_34 ?_
                  exact WL.weaken (Fr.c (Fr.c Fr.n)) (J43 _ _ hF)
                | false =>
                  replace hF := ifB_f hF
                  replace hF := obind_some hF; obtain ⟨t71, e97, hF⟩ := hF
                  refine WL.b (some 71) t71 h_34 (field_ptr (P := Try.prog) (h := h_34) (s := 30) (f := 12) (by kernel_rfl) e97) ?_
                  replace hF := obind_some hF; obtain ⟨v72, e98, hF⟩ := hF
                  replace hF := obind_some hF; obtain ⟨t72, c99, hF⟩ := hF
                  have c99 := avStr_some c99
                  subst c99
                  refine WL.b (some 72) (strA t72) h_34 (load_cell (P := Try.prog) (h := h_34) (t := 9) (by kernel_rfl) e98) ?_
                  refine WL.a (some 73) (.int .i64 (lenS t72)) h_34 ?_
                  replace hF := lett_some hF; obtain ⟨t74, e100, hF⟩ := hF
                  refine WL.val (d := (some 74)) (v := .bool t74) (h' := h_34) (by kernel_rfl) (by kernel_rfl) (val_of AV.bool e100 (by kernel_rfl)) ?_
                  refine WL.a (some 75) (.bool t74) h_34 ?_
                  exact WL.weaken (Fr.c (Fr.c Fr.n)) (J43 _ _ hF)
              refine W.blockK (by kernel_rfl) (fun K32 n32 s32 o32 q32 p32 => ?_)
              refine W.loopK (by kernel_rfl) (fun I101 K101 b101 n101 e101 q101 p101 => ?_)
              have L101 : ∀ (m : Nat) (t4 : Int) (h_102 : AHeap), ref17_Check_L1 r8 k33 m t4 h_102 = some (rR, hR) → Go w0 m0 (Func.ntmps Try.f16) I101 [(1, v1), (3, r8), (4, .int .i64 t4)] [] h_102 := by
                intro m
                induction m with
                | zero => intro t4 h_102 hF; cases hF
                | succ m ih101 =>
                  intro t4 h_102 hF
                  rw [ref17_Check_L1_s] at hF; unfold ref17_Check_L1b at hF
                  refine b101 ?_
                  refine W.s (fun K103 n103 e103 q103 p103 => ?_)
                  refine W.s (fun K104 n104 e104 q104 p104 => ?_)
                  refine W.r ?_
                  refine WL.a (some 37) (.int .i64 t4) h_102 ?_
                  refine WL.a (some 38) r8 h_102 ?_
                  replace hF := obind_some hF; obtain ⟨t39, e105, hF⟩ := hF
                  refine WL.b (some 39) (.int .i64 t39) h_102 (len_row (P := Try.prog) (h := h_102) (t := 79) (e' := 3) (by kernel_rfl) e105) ?_
                  replace hF := lett_some hF; obtain ⟨t40, e106, hF⟩ := hF
                  refine WL.val (d := (some 40)) (v := .bool t40) (h' := h_102) (by kernel_rfl) (by kernel_rfl) (val_of AV.bool e106 (by kernel_rfl)) ?_
                  refine WL.n ?_
                  refine Go.weaken (l' := [(1, v1), (3, r8), (4, .int .i64 t4), (40, .bool t40)]) (Fr.c (Fr.c (Fr.c (Fr.c Fr.n)))) ?_
                  refine n104 ?_
                  cases t40 with
                  | true =>
                    replace hF := ifB_t hF
                    refine W.t ?_
                    refine W.skip (by kernel_rfl) ?_
                    refine n103 ?_
                    refine W.s (fun K107 n107 e107 q107 p107 => ?_)
                    refine W.blockK (by kernel_rfl) (fun K108 n108 s108 o108 q108 p108 => ?_)
                    refine W.s (fun K109 n109 e109 q109 p109 => ?_)
                    refine W.r ?_
                    refine WL.a (some 43) r8 h_102 ?_
                    refine WL.a (some 44) (.int .i64 t4) h_102 ?_
                    replace hF := obind_some hF; obtain ⟨t45, e110, hF⟩ := hF
                    refine WL.b (some 45) t45 h_102 (index_row (P := Try.prog) (h := h_102) (t := 79) (e' := 3) (k := .i64) (by kernel_rfl) (by kernel_rfl) (by kernel_rfl) e110) ?_
                    replace hF := obind_some hF; obtain ⟨v46, e111, hF⟩ := hF
                    replace hF := obind_some hF; obtain ⟨t46, c112, hF⟩ := hF
                    have c112 := avInt_some c112
                    subst c112
                    refine WL.b (some 46) (.int .i64 t46) h_102 (load_cell (P := Try.prog) (h := h_102) (t := 3) (by kernel_rfl) e111) ?_
                    replace hF := lett_some hF; obtain ⟨t47, e113, hF⟩ := hF
                    refine WL.val (d := (some 47)) (v := .bool t47) (h' := h_102) (by kernel_rfl) (by kernel_rfl) (val_of AV.bool e113 (by kernel_rfl)) ?_
                    refine WL.a (some 48) (.bool t47) h_102 ?_
                    replace hF := lett_some hF; obtain ⟨j54, e115, hF⟩ := hF
                    have J116 : ∀ (t54 : Bool) (h_114 : AHeap), j54 t54 h_114 = some (rR, hR) → WL Try.prog w0 m0 (Func.ntmps Try.f16) (Code.ops (Code.p1 (Code.p1 (Code.p1 (Code.p2 (Code.p1 (Code.p1 (Code.p2 (Code.p1 (Code.p2 (Code.p2 (Code.p2 (codeOf Try.f16))))))))))))) 12 K109 [(1, v1), (3, r8), (4, .int .i64 t4), (54, .bool t54)] [] h_114 := by
                      intro t54 h_114 hF
                      rw [e115] at hF
                      refine WL.a (some 55) (.bool t54) h_114 ?_
                      replace hF := lett_some hF; obtain ⟨j65, e118, hF⟩ := hF
                      have J119 : ∀ (t65 : Bool) (h_117 : AHeap), j65 t65 h_117 = some (rR, hR) → WL Try.prog w0 m0 (Func.ntmps Try.f16) (Code.ops (Code.p1 (Code.p1 (Code.p1 (Code.p2 (Code.p1 (Code.p1 (Code.p2 (Code.p1 (Code.p2 (Code.p2 (Code.p2 (codeOf Try.f16))))))))))))) 23 K109 [(1, v1), (3, r8), (4, .int .i64 t4), (65, .bool t65)] [] h_117 := by
                        intro t65 h_117 hF
                        rw [e118] at hF
                        refine WL.n ?_
                        refine Go.weaken (l' := [(1, v1), (3, r8), (4, .int .i64 t4), (65, .bool t65)]) (Fr.c (Fr.c (Fr.c (Fr.c Fr.n)))) ?_
                        refine n109 ?_
                        cases t65 with
                        | true =>
                          replace hF := ifB_t hF
                          refine W.t ?_
                          refine W.s (fun K120 n120 e120 q120 p120 => ?_)
                          refine W.r ?_
                          refine WL.a (some 2) (.int .i64 2) h_117 ?_
                          refine WL.n ?_
                          refine Go.weaken (l' := [(2, .int .i64 2)]) (Fr.c Fr.n) ?_
                          refine n120 ?_
                          refine W.ret (by kernel_rfl) ?_
                          refine q108 ?_
                          refine q107 ?_
                          refine q101 ?_
                          refine q32 ?_
                          refine q30 ?_
                          obtain ⟨hF, hF2⟩ := ret_inj hF; subst hF; subst hF2
                          exact leave_of (rs := [.tmp 2]) (vs := [.int .i64 2]) (by kernel_rfl) (res_tmp (by kernel_rfl) res_nil) (by kernel_rfl)
                        | false =>
                          replace hF := ifB_f hF
                          refine W.f ?_
                          refine W.skip (by kernel_rfl) ?_
                          refine n108 ?_
                          refine n107 ?_
                          refine W.r ?_
                          refine WL.a (some 41) (.int .i64 t4) h_117 ?_
                          replace hF := lett_some hF; obtain ⟨t42, e121, hF⟩ := hF
                          refine WL.val (d := (some 42)) (v := .int .i64 t42) (h' := h_117) (by kernel_rfl) (by kernel_rfl) (val_of (AV.int .i64) e121 (by kernel_rfl)) ?_
                          refine WL.a (some 4) (.int .i64 t42) h_117 ?_
                          refine WL.n ?_
                          refine Go.weaken (l' := [(1, v1), (3, r8), (4, .int .i64 t42)]) (Fr.c (Fr.c (Fr.c Fr.n))) ?_
                          refine n101 ?_
                          exact Go.weaken (Fr.c (Fr.c (Fr.c Fr.n))) (ih101 _ _ hF)
                      cases t54 with
                      | true =>
                        replace hF := ifB_t hF
                        refine WL.o (some 56) ?_
                        refine WL.o (some 57) ?_
                        refine WL.o (some 58) ?_
                        refine WL.o (some 59) ?_
                        refine WL.o (some 60) ?_
                        refine WL.o (some 61) ?_
                        refine WL.o (some 62) ?_
                        refine WL.o (some 63) ?_
                        refine WL.o (some 64) ?_
                        refine WL.a (some 65) (.bool true) h_114 ?_
                        exact WL.weaken (Fr.c (Fr.c (Fr.c (Fr.c Fr.n)))) (J119 _ _ hF)
                      | false =>
                        replace hF := ifB_f hF
                        refine WL.a (some 56) (.int .i64 t4) h_114 ?_
                        replace hF := lett_some hF; obtain ⟨t57, e122, hF⟩ := hF
                        refine WL.val (d := (some 57)) (v := .bool t57) (h' := h_114) (by kernel_rfl) (by kernel_rfl) (val_of AV.bool e122 (by kernel_rfl)) ?_
                        refine WL.a (some 58) (.bool t57) h_114 ?_
                        replace hF := lett_some hF; obtain ⟨j64, e124, hF⟩ := hF
                        have J125 : ∀ (t64 : Bool) (h_123 : AHeap), j64 t64 h_123 = some (rR, hR) → WL Try.prog w0 m0 (Func.ntmps Try.f16) (Code.ops (Code.p1 (Code.p1 (Code.p1 (Code.p2 (Code.p1 (Code.p1 (Code.p2 (Code.p1 (Code.p2 (Code.p2 (Code.p2 (codeOf Try.f16))))))))))))) 22 K109 [(1, v1), (3, r8), (4, .int .i64 t4), (55, .bool false), (64, .bool t64)] [] h_123 := by
                          intro t64 h_123 hF
                          rw [e124] at hF
                          refine WL.a (some 65) (.bool t64) h_123 ?_
                          exact WL.weaken (Fr.c (Fr.c (Fr.c (Fr.c Fr.n)))) (J119 _ _ hF)
                        cases t57 with
                        | true =>
                          replace hF := ifB_t hF
                          refine WL.a (some 59) r8 h_114 ?_
                          refine WL.a (some 60) (.int .i64 t4) h_114 ?_
                          replace hF := obind_some hF; obtain ⟨t61, e126, hF⟩ := hF
                          refine WL.b (some 61) t61 h_114 (index_row (P := Try.prog) (h := h_114) (t := 79) (e' := 3) (k := .i64) (by kernel_rfl) (by kernel_rfl) (by kernel_rfl) e126) ?_
                          replace hF := obind_some hF; obtain ⟨v62, e127, hF⟩ := hF
                          replace hF := obind_some hF; obtain ⟨t62, c128, hF⟩ := hF
                          have c128 := avInt_some c128
                          subst c128
                          refine WL.b (some 62) (.int .i64 t62) h_114 (load_cell (P := Try.prog) (h := h_114) (t := 3) (by kernel_rfl) e127) ?_
                          replace hF := lett_some hF; obtain ⟨t63, e129, hF⟩ := hF
                          refine WL.val (d := (some 63)) (v := .bool t63) (h' := h_114) (by kernel_rfl) (by kernel_rfl) (val_of AV.bool e129 (by kernel_rfl)) ?_
                          refine WL.a (some 64) (.bool t63) h_114 ?_
                          exact WL.weaken (Fr.c (Fr.c (Fr.c (Fr.c (Fr.c Fr.n))))) (J125 _ _ hF)
                        | false =>
                          replace hF := ifB_f hF
                          refine WL.o (some 59) ?_
                          refine WL.o (some 60) ?_
                          refine WL.o (some 61) ?_
                          refine WL.o (some 62) ?_
                          refine WL.o (some 63) ?_
                          refine WL.a (some 64) (.bool false) h_114 ?_
                          exact WL.weaken (Fr.c (Fr.c (Fr.c (Fr.c (Fr.c Fr.n))))) (J125 _ _ hF)
                    cases t47 with
                    | true =>
                      replace hF := ifB_t hF
                      refine WL.o (some 49) ?_
                      refine WL.o (some 50) ?_
                      refine WL.o (some 51) ?_
                      refine WL.o (some 52) ?_
                      refine WL.o (some 53) ?_
                      refine WL.a (some 54) (.bool true) h_102 ?_
                      exact WL.weaken (Fr.c (Fr.c (Fr.c (Fr.c Fr.n)))) (J116 _ _ hF)
                    | false =>
                      replace hF := ifB_f hF
                      refine WL.a (some 49) r8 h_102 ?_
                      refine WL.a (some 50) (.int .i64 t4) h_102 ?_
                      replace hF := obind_some hF; obtain ⟨t51, e130, hF⟩ := hF
                      refine WL.b (some 51) t51 h_102 (index_row (P := Try.prog) (h := h_102) (t := 79) (e' := 3) (k := .i64) (by kernel_rfl) (by kernel_rfl) (by kernel_rfl) e130) ?_
                      replace hF := obind_some hF; obtain ⟨v52, e131, hF⟩ := hF
                      replace hF := obind_some hF; obtain ⟨t52, c132, hF⟩ := hF
                      have c132 := avInt_some c132
                      subst c132
                      refine WL.b (some 52) (.int .i64 t52) h_102 (load_cell (P := Try.prog) (h := h_102) (t := 3) (by kernel_rfl) e131) ?_
                      replace hF := lett_some hF; obtain ⟨t53, e133, hF⟩ := hF
                      refine WL.val (d := (some 53)) (v := .bool t53) (h' := h_102) (by kernel_rfl) (by kernel_rfl) (val_of AV.bool e133 (by kernel_rfl)) ?_
                      refine WL.a (some 54) (.bool t53) h_102 ?_
                      exact WL.weaken (Fr.c (Fr.c (Fr.c (Fr.c Fr.n)))) (J116 _ _ hF)
                  | false =>
                    replace hF := ifB_f hF
                    refine W.f ?_
                    refine W.exit (by kernel_rfl) ?_
                    refine e103 ?_
                    refine e101 ?_
                    refine s32 (by kernel_rfl) ?_
                    exact Go.weaken (Fr.c Fr.n) (J33 _ hF)
              exact Go.weaken (Fr.c (Fr.c (Fr.c Fr.n))) (L101 _ _ _ hF)
          cases t31 with
          | true =>
            replace hF := ifB_t hF
            refine WL.o (some 33) ?_
            refine WL.o (some 34) ?_
            refine WL.o (some 35) ?_
            refine WL.a (some 36) (.bool true) h_23 ?_
            exact WL.weaken (Fr.c (Fr.c (Fr.c Fr.n))) (J28 _ _ hF)
          | false =>
            replace hF := ifB_f hF
            replace hF := obind_some hF; obtain ⟨t33, e134, hF⟩ := hF
            refine WL.b (some 33) t33 h_23 (field_ptr (P := Try.prog) (h := h_23) (s := 30) (f := 20) (by kernel_rfl) e134) ?_
            replace hF := obind_some hF; obtain ⟨v34, e135, hF⟩ := hF
            replace hF := obind_some hF; obtain ⟨t34, c136, hF⟩ := hF
            have c136 := avInt_some c136
            subst c136
            refine WL.b (some 34) (.int .i64 t34) h_23 (load_cell (P := Try.prog) (h := h_23) (t := 3) (by kernel_rfl) e135) ?_
            replace hF := lett_some hF; obtain ⟨t35, e137, hF⟩ := hF
            refine WL.val (d := (some 35)) (v := .bool t35) (h' := h_23) (by kernel_rfl) (by kernel_rfl) (val_of AV.bool e137 (by kernel_rfl)) ?_
            refine WL.a (some 36) (.bool t35) h_23 ?_
            exact WL.weaken (Fr.c (Fr.c (Fr.c Fr.n))) (J28 _ _ hF)
        cases t26 with
        | true =>
          replace hF := ifB_t hF
          refine WL.o (some 28) ?_
          refine WL.o (some 29) ?_
          refine WL.o (some 30) ?_
          refine WL.a (some 31) (.bool true) h_20 ?_
          exact WL.weaken (Fr.c (Fr.c (Fr.c Fr.n))) (J25 _ _ hF)
        | false =>
          replace hF := ifB_f hF
          replace hF := obind_some hF; obtain ⟨t28, e138, hF⟩ := hF
          refine WL.b (some 28) t28 h_20 (field_ptr (P := Try.prog) (h := h_20) (s := 30) (f := 20) (by kernel_rfl) e138) ?_
          replace hF := obind_some hF; obtain ⟨v29, e139, hF⟩ := hF
          replace hF := obind_some hF; obtain ⟨t29, c140, hF⟩ := hF
          have c140 := avInt_some c140
          subst c140
          refine WL.b (some 29) (.int .i64 t29) h_20 (load_cell (P := Try.prog) (h := h_20) (t := 3) (by kernel_rfl) e139) ?_
          replace hF := lett_some hF; obtain ⟨t30, e141, hF⟩ := hF
          refine WL.val (d := (some 30)) (v := .bool t30) (h' := h_20) (by kernel_rfl) (by kernel_rfl) (val_of AV.bool e141 (by kernel_rfl)) ?_
          refine WL.a (some 31) (.bool t30) h_20 ?_
          exact WL.weaken (Fr.c (Fr.c (Fr.c Fr.n))) (J25 _ _ hF)
      cases t21 with
      | true =>
        replace hF := ifB_t hF
        refine WL.o (some 23) ?_
        refine WL.o (some 24) ?_
        refine WL.o (some 25) ?_
        refine WL.a (some 26) (.bool true) h_17 ?_
        exact WL.weaken (Fr.c (Fr.c (Fr.c Fr.n))) (J22 _ _ hF)
      | false =>
        replace hF := ifB_f hF
        replace hF := obind_some hF; obtain ⟨t23, e142, hF⟩ := hF
        refine WL.b (some 23) t23 h_17 (field_ptr (P := Try.prog) (h := h_17) (s := 30) (f := 19) (by kernel_rfl) e142) ?_
        replace hF := obind_some hF; obtain ⟨v24, e143, hF⟩ := hF
        replace hF := obind_some hF; obtain ⟨t24, c144, hF⟩ := hF
        have c144 := avInt_some c144
        subst c144
        refine WL.b (some 24) (.int .i64 t24) h_17 (load_cell (P := Try.prog) (h := h_17) (t := 23) (by kernel_rfl) e143) ?_
        replace hF := lett_some hF; obtain ⟨t25, e145, hF⟩ := hF
        refine WL.val (d := (some 25)) (v := .bool t25) (h' := h_17) (by kernel_rfl) (by kernel_rfl) (val_of AV.bool e145 (by kernel_rfl)) ?_
        refine WL.a (some 26) (.bool t25) h_17 ?_
        exact WL.weaken (Fr.c (Fr.c (Fr.c Fr.n))) (J22 _ _ hF)
    cases t16 with
    | true =>
      replace hF := ifB_t hF
      refine WL.o (some 18) ?_
      refine WL.o (some 19) ?_
      refine WL.o (some 20) ?_
      refine WL.a (some 21) (.bool true) h_14 ?_
      exact WL.weaken (Fr.c (Fr.c (Fr.c Fr.n))) (J19 _ _ hF)
    | false =>
      replace hF := ifB_f hF
      replace hF := obind_some hF; obtain ⟨t18, e146, hF⟩ := hF
      refine WL.b (some 18) t18 h_14 (field_ptr (P := Try.prog) (h := h_14) (s := 30) (f := 19) (by kernel_rfl) e146) ?_
      replace hF := obind_some hF; obtain ⟨v19, e147, hF⟩ := hF
      replace hF := obind_some hF; obtain ⟨t19, c148, hF⟩ := hF
      have c148 := avInt_some c148
      subst c148
      refine WL.b (some 19) (.int .i64 t19) h_14 (load_cell (P := Try.prog) (h := h_14) (t := 23) (by kernel_rfl) e147) ?_
      replace hF := lett_some hF; obtain ⟨t20, e149, hF⟩ := hF
      refine WL.val (d := (some 20)) (v := .bool t20) (h' := h_14) (by kernel_rfl) (by kernel_rfl) (val_of AV.bool e149 (by kernel_rfl)) ?_
      refine WL.a (some 21) (.bool t20) h_14 ?_
      exact WL.weaken (Fr.c (Fr.c (Fr.c Fr.n))) (J19 _ _ hF)
  cases t11 with
  | true =>
    replace hF := ifB_t hF
    refine WL.o (some 13) ?_
    refine WL.o (some 14) ?_
    refine WL.o (some 15) ?_
    refine WL.a (some 16) (.bool true) h_6 ?_
    exact WL.weaken (Fr.c (Fr.c (Fr.c Fr.n))) (J16 _ _ hF)
  | false =>
    replace hF := ifB_f hF
    replace hF := obind_some hF; obtain ⟨t13, e150, hF⟩ := hF
    refine WL.b (some 13) t13 h_6 (field_ptr (P := Try.prog) (h := h_6) (s := 30) (f := 0) (by kernel_rfl) e150) ?_
    replace hF := obind_some hF; obtain ⟨v14, e151, hF⟩ := hF
    replace hF := obind_some hF; obtain ⟨t14, c152, hF⟩ := hF
    have c152 := avInt_some c152
    subst c152
    refine WL.b (some 14) (.int .u8 t14) h_6 (load_cell (P := Try.prog) (h := h_6) (t := 5) (by kernel_rfl) e151) ?_
    replace hF := lett_some hF; obtain ⟨t15, e153, hF⟩ := hF
    refine WL.val (d := (some 15)) (v := .bool t15) (h' := h_6) (by kernel_rfl) (by kernel_rfl) (val_of AV.bool e153 (by kernel_rfl)) ?_
    refine WL.a (some 16) (.bool t15) h_6 ?_
    exact WL.weaken (Fr.c (Fr.c (Fr.c Fr.n))) (J16 _ _ hF)
noncomputable def ref17_Check_fn (call : CallF) (n : Nat) : FnT := fun args h => match args with
  | [x0] => obind (avAgg x0) fun t0 => ref17_Check call n t0 h
  | _ => none
set_option maxRecDepth 100000 in
theorem ref17_Check_fn_eq (call : CallF) (n : Nat) (t0 : List AV) (h : AHeap) : ref17_Check_fn call n [.agg t0] h = ref17_Check call n t0 h :=
  (Eq.trans (obind_eq (fun t0 => ref17_Check call n t0 h) (avAgg_agg t0)) rfl)
theorem ref17_Check_holds {call : CallF} (hc : SaysAll Try.prog call) (n : Nat) : Holds Try.prog 16 (ref17_Check_fn call n) := by
  intro args h r h2 e
  unfold ref17_Check_fn at e
  split at e
  · replace e := obind_some e; obtain ⟨t0, c0, e⟩ := e; have c0 := avAgg_some c0; subst c0
    exact ref17_Check_ok hc e
  · cases e

noncomputable def ref17_Numbers (_ : CallF) (_ : Nat) (t0 : List AV) (h : AHeap) : R :=
  outK (opBox h 30 (some (.agg t0))) fun v1 h_2 =>
  obind (fldP 1 v1) fun t3 =>
  obind (ldCell h_2 t3) fun v4 =>
  obind (avInt .i64 v4) fun t4 =>
  obind (fldP 2 v1) fun t5 =>
  obind (ldCell h_2 t5) fun v6 =>
  obind (avInt .i64 v6) fun t6 =>
  obind (fldP 3 v1) fun t7 =>
  obind (ldCell h_2 t7) fun v8 =>
  obind (avInt .i64 v8) fun t8 =>
  obind (fldP 4 v1) fun t9 =>
  obind (ldCell h_2 t9) fun v10 =>
  obind (avInt .i64 v10) fun t10 =>
  obind (fldP 5 v1) fun t11 =>
  obind (ldCell h_2 t11) fun v12 =>
  obind (avInt .i64 v12) fun t12 =>
  obind (fldP 6 v1) fun t13 =>
  obind (ldCell h_2 t13) fun v14 =>
  obind (avInt .i64 v14) fun t14 =>
  obind (fldP 7 v1) fun t15 =>
  obind (ldCell h_2 t15) fun v16 =>
  obind (avInt .i64 v16) fun t16 =>
  obind (fldP 10 v1) fun t17 =>
  obind (ldCell h_2 t17) fun v18 =>
  obind (avInt .i64 v18) fun t18 =>
  obind (fldP 11 v1) fun t19 =>
  obind (ldCell h_2 t19) fun v20 =>
  obind (avInt .i64 v20) fun t20 =>
  obind (fldP 13 v1) fun t21 =>
  obind (ldCell h_2 t21) fun v22 =>
  obind (avInt .i64 v22) fun t22 =>
  obind (fldP 14 v1) fun t23 =>
  obind (fldP 0 t23) fun t24 =>
  obind (ldCell h_2 t24) fun v25 =>
  obind (avInt .i64 v25) fun t25 =>
  obind (fldP 14 v1) fun t26 =>
  obind (fldP 1 t26) fun t27 =>
  obind (ldCell h_2 t27) fun v28 =>
  obind (avInt .i64 v28) fun t28 =>
  obind (fldP 16 v1) fun t29 =>
  obind (ldCell h_2 t29) fun v30 =>
  obind (avInt .i64 v30) fun t30 =>
  obind (fldP 17 v1) fun t31 =>
  obind (ldCell h_2 t31) fun v32 =>
  obind (avInt .i64 v32) fun t32 =>
  obind (fldP 18 v1) fun t33 =>
  obind (ldCell h_2 t33) fun v34 =>
  obind (avInt .i64 v34) fun t34 =>
  outK (bldSl Try.prog h_2 79 15 [(0, .int .i64 t4), (1, .int .i64 t6), (2, .int .i64 t8), (3, .int .i64 t10), (4, .int .i64 t12), (5, .int .i64 t14), (6, .int .i64 t16), (7, .int .i64 t18), (8, .int .i64 t20), (9, .int .i64 t22), (10, .int .i64 t25), (11, .int .i64 t28), (12, .int .i64 t30), (13, .int .i64 t32), (14, .int .i64 t34)]) fun v35 h_52 =>
  some (.ret (v35), h_52)
set_option maxHeartbeats 4000000 in
set_option maxRecDepth 20000 in
theorem ref17_Numbers_ok {call : CallF} (_ : SaysAll Try.prog call) {n : Nat} {t0 : List AV} {h : AHeap} {rR : ARes} {hR : AHeap} (hF : ref17_Numbers call n t0 h = some (rR, hR)) : Says Try.prog 34 [.agg t0] h rR hR := by
  unfold ref17_Numbers at hF
  refine says_of (fn := Try.f34) Try.func34 (c := codeOf Try.f34) (by kernel_rfl) (by kernel_rfl) (fun w0 m0 => ?_)
  refine W.weaken (l' := [(0, .agg t0)]) (Fr.c Fr.n) ?_
  refine W.s (fun K1 n1 e1 q1 p1 => ?_)
  refine W.r ?_
  replace hF := outK_some hF; obtain ⟨v1, h_2, e3, hF⟩ := hF
  refine WL.b (some 1) v1 h_2 e3 ?_
  refine WL.a (some 2) AV.nsl h_2 ?_
  refine WL.n ?_
  refine Go.weaken (l' := [(1, v1)]) (Fr.c Fr.n) ?_
  refine n1 ?_
  refine W.s (fun K4 n4 e4 q4 p4 => ?_)
  refine W.r ?_
  replace hF := obind_some hF; obtain ⟨t3, e5, hF⟩ := hF
  refine WL.b (some 3) t3 h_2 (field_ptr (P := Try.prog) (h := h_2) (s := 30) (f := 1) (by kernel_rfl) e5) ?_
  replace hF := obind_some hF; obtain ⟨v4, e6, hF⟩ := hF
  replace hF := obind_some hF; obtain ⟨t4, c7, hF⟩ := hF
  have c7 := avInt_some c7
  subst c7
  refine WL.b (some 4) (.int .i64 t4) h_2 (load_cell (P := Try.prog) (h := h_2) (t := 3) (by kernel_rfl) e6) ?_
  replace hF := obind_some hF; obtain ⟨t5, e8, hF⟩ := hF
  refine WL.b (some 5) t5 h_2 (field_ptr (P := Try.prog) (h := h_2) (s := 30) (f := 2) (by kernel_rfl) e8) ?_
  replace hF := obind_some hF; obtain ⟨v6, e9, hF⟩ := hF
  replace hF := obind_some hF; obtain ⟨t6, c10, hF⟩ := hF
  have c10 := avInt_some c10
  subst c10
  refine WL.b (some 6) (.int .i64 t6) h_2 (load_cell (P := Try.prog) (h := h_2) (t := 3) (by kernel_rfl) e9) ?_
  replace hF := obind_some hF; obtain ⟨t7, e11, hF⟩ := hF
  refine WL.b (some 7) t7 h_2 (field_ptr (P := Try.prog) (h := h_2) (s := 30) (f := 3) (by kernel_rfl) e11) ?_
  replace hF := obind_some hF; obtain ⟨v8, e12, hF⟩ := hF
  replace hF := obind_some hF; obtain ⟨t8, c13, hF⟩ := hF
  have c13 := avInt_some c13
  subst c13
  refine WL.b (some 8) (.int .i64 t8) h_2 (load_cell (P := Try.prog) (h := h_2) (t := 3) (by kernel_rfl) e12) ?_
  replace hF := obind_some hF; obtain ⟨t9, e14, hF⟩ := hF
  refine WL.b (some 9) t9 h_2 (field_ptr (P := Try.prog) (h := h_2) (s := 30) (f := 4) (by kernel_rfl) e14) ?_
  replace hF := obind_some hF; obtain ⟨v10, e15, hF⟩ := hF
  replace hF := obind_some hF; obtain ⟨t10, c16, hF⟩ := hF
  have c16 := avInt_some c16
  subst c16
  refine WL.b (some 10) (.int .i64 t10) h_2 (load_cell (P := Try.prog) (h := h_2) (t := 3) (by kernel_rfl) e15) ?_
  replace hF := obind_some hF; obtain ⟨t11, e17, hF⟩ := hF
  refine WL.b (some 11) t11 h_2 (field_ptr (P := Try.prog) (h := h_2) (s := 30) (f := 5) (by kernel_rfl) e17) ?_
  replace hF := obind_some hF; obtain ⟨v12, e18, hF⟩ := hF
  replace hF := obind_some hF; obtain ⟨t12, c19, hF⟩ := hF
  have c19 := avInt_some c19
  subst c19
  refine WL.b (some 12) (.int .i64 t12) h_2 (load_cell (P := Try.prog) (h := h_2) (t := 3) (by kernel_rfl) e18) ?_
  replace hF := obind_some hF; obtain ⟨t13, e20, hF⟩ := hF
  refine WL.b (some 13) t13 h_2 (field_ptr (P := Try.prog) (h := h_2) (s := 30) (f := 6) (by kernel_rfl) e20) ?_
  replace hF := obind_some hF; obtain ⟨v14, e21, hF⟩ := hF
  replace hF := obind_some hF; obtain ⟨t14, c22, hF⟩ := hF
  have c22 := avInt_some c22
  subst c22
  refine WL.b (some 14) (.int .i64 t14) h_2 (load_cell (P := Try.prog) (h := h_2) (t := 3) (by kernel_rfl) e21) ?_
  replace hF := obind_some hF; obtain ⟨t15, e23, hF⟩ := hF
  refine WL.b (some 15) t15 h_2 (field_ptr (P := Try.prog) (h := h_2) (s := 30) (f := 7) (by kernel_rfl) e23) ?_
  replace hF := obind_some hF; obtain ⟨v16, e24, hF⟩ := hF
  replace hF := obind_some hF; obtain ⟨t16, c25, hF⟩ := hF
  have c25 := avInt_some c25
  subst c25
  refine WL.b (some 16) (.int .i64 t16) h_2 (load_cell (P := Try.prog) (h := h_2) (t := 3) (by kernel_rfl) e24) ?_
  replace hF := obind_some hF; obtain ⟨t17, e26, hF⟩ := hF
  refine WL.b (some 17) t17 h_2 (field_ptr (P := Try.prog) (h := h_2) (s := 30) (f := 10) (by kernel_rfl) e26) ?_
  replace hF := obind_some hF; obtain ⟨v18, e27, hF⟩ := hF
  replace hF := obind_some hF; obtain ⟨t18, c28, hF⟩ := hF
  have c28 := avInt_some c28
  subst c28
  refine WL.b (some 18) (.int .i64 t18) h_2 (load_cell (P := Try.prog) (h := h_2) (t := 3) (by kernel_rfl) e27) ?_
  replace hF := obind_some hF; obtain ⟨t19, e29, hF⟩ := hF
  refine WL.b (some 19) t19 h_2 (field_ptr (P := Try.prog) (h := h_2) (s := 30) (f := 11) (by kernel_rfl) e29) ?_
  replace hF := obind_some hF; obtain ⟨v20, e30, hF⟩ := hF
  replace hF := obind_some hF; obtain ⟨t20, c31, hF⟩ := hF
  have c31 := avInt_some c31
  subst c31
  refine WL.b (some 20) (.int .i64 t20) h_2 (load_cell (P := Try.prog) (h := h_2) (t := 3) (by kernel_rfl) e30) ?_
  replace hF := obind_some hF; obtain ⟨t21, e32, hF⟩ := hF
  refine WL.b (some 21) t21 h_2 (field_ptr (P := Try.prog) (h := h_2) (s := 30) (f := 13) (by kernel_rfl) e32) ?_
  replace hF := obind_some hF; obtain ⟨v22, e33, hF⟩ := hF
  replace hF := obind_some hF; obtain ⟨t22, c34, hF⟩ := hF
  have c34 := avInt_some c34
  subst c34
  refine WL.b (some 22) (.int .i64 t22) h_2 (load_cell (P := Try.prog) (h := h_2) (t := 3) (by kernel_rfl) e33) ?_
  replace hF := obind_some hF; obtain ⟨t23, e35, hF⟩ := hF
  refine WL.b (some 23) t23 h_2 (field_ptr (P := Try.prog) (h := h_2) (s := 30) (f := 14) (by kernel_rfl) e35) ?_
  replace hF := obind_some hF; obtain ⟨t24, e36, hF⟩ := hF
  refine WL.b (some 24) t24 h_2 (field_ptr (P := Try.prog) (h := h_2) (s := 28) (f := 0) (by kernel_rfl) e36) ?_
  replace hF := obind_some hF; obtain ⟨v25, e37, hF⟩ := hF
  replace hF := obind_some hF; obtain ⟨t25, c38, hF⟩ := hF
  have c38 := avInt_some c38
  subst c38
  refine WL.b (some 25) (.int .i64 t25) h_2 (load_cell (P := Try.prog) (h := h_2) (t := 3) (by kernel_rfl) e37) ?_
  replace hF := obind_some hF; obtain ⟨t26, e39, hF⟩ := hF
  refine WL.b (some 26) t26 h_2 (field_ptr (P := Try.prog) (h := h_2) (s := 30) (f := 14) (by kernel_rfl) e39) ?_
  replace hF := obind_some hF; obtain ⟨t27, e40, hF⟩ := hF
  refine WL.b (some 27) t27 h_2 (field_ptr (P := Try.prog) (h := h_2) (s := 28) (f := 1) (by kernel_rfl) e40) ?_
  replace hF := obind_some hF; obtain ⟨v28, e41, hF⟩ := hF
  replace hF := obind_some hF; obtain ⟨t28, c42, hF⟩ := hF
  have c42 := avInt_some c42
  subst c42
  refine WL.b (some 28) (.int .i64 t28) h_2 (load_cell (P := Try.prog) (h := h_2) (t := 3) (by kernel_rfl) e41) ?_
  replace hF := obind_some hF; obtain ⟨t29, e43, hF⟩ := hF
  refine WL.b (some 29) t29 h_2 (field_ptr (P := Try.prog) (h := h_2) (s := 30) (f := 15) (by kernel_rfl) e43) ?_
  replace hF := obind_some hF; obtain ⟨v30, e44, hF⟩ := hF
  replace hF := obind_some hF; obtain ⟨t30, c45, hF⟩ := hF
  have c45 := avInt_some c45
  subst c45
  refine WL.b (some 30) (.int .i64 t30) h_2 (load_cell (P := Try.prog) (h := h_2) (t := 3) (by kernel_rfl) e44) ?_
  replace hF := obind_some hF; obtain ⟨t31, e46, hF⟩ := hF
  refine WL.b (some 31) t31 h_2 (field_ptr (P := Try.prog) (h := h_2) (s := 30) (f := 16) (by kernel_rfl) e46) ?_
  replace hF := obind_some hF; obtain ⟨v32, e47, hF⟩ := hF
  replace hF := obind_some hF; obtain ⟨t32, c48, hF⟩ := hF
  have c48 := avInt_some c48
  subst c48
  refine WL.b (some 32) (.int .i64 t32) h_2 (load_cell (P := Try.prog) (h := h_2) (t := 3) (by kernel_rfl) e47) ?_
  replace hF := obind_some hF; obtain ⟨t33, e49, hF⟩ := hF
  refine WL.b (some 33) t33 h_2 (field_ptr (P := Try.prog) (h := h_2) (s := 30) (f := 17) (by kernel_rfl) e49) ?_
  replace hF := obind_some hF; obtain ⟨v34, e50, hF⟩ := hF
  replace hF := obind_some hF; obtain ⟨t34, c51, hF⟩ := hF
  have c51 := avInt_some c51
  subst c51
  refine WL.b (some 34) (.int .i64 t34) h_2 (load_cell (P := Try.prog) (h := h_2) (t := 3) (by kernel_rfl) e50) ?_
  replace hF := outK_some hF; obtain ⟨v35, h_52, e53, hF⟩ := hF
  refine WL.b (some 35) v35 h_52 e53 ?_
  refine WL.a (some 2) v35 h_52 ?_
  refine WL.n ?_
  refine Go.weaken (l' := [(2, v35)]) (Fr.c Fr.n) ?_
  refine n4 ?_
  refine W.ret (by kernel_rfl) ?_
  obtain ⟨hF, hF2⟩ := ret_inj hF; subst hF; subst hF2
  exact leave_of (rs := [.tmp 2]) (vs := [v35]) (by kernel_rfl) (res_tmp (by kernel_rfl) res_nil) (by kernel_rfl)
noncomputable def ref17_Numbers_fn (call : CallF) (n : Nat) : FnT := fun args h => match args with
  | [x0] => obind (avAgg x0) fun t0 => ref17_Numbers call n t0 h
  | _ => none
set_option maxRecDepth 100000 in
theorem ref17_Numbers_fn_eq (call : CallF) (n : Nat) (t0 : List AV) (h : AHeap) : ref17_Numbers_fn call n [.agg t0] h = ref17_Numbers call n t0 h :=
  (Eq.trans (obind_eq (fun t0 => ref17_Numbers call n t0 h) (avAgg_agg t0)) rfl)
theorem ref17_Numbers_holds {call : CallF} (hc : SaysAll Try.prog call) (n : Nat) : Holds Try.prog 34 (ref17_Numbers_fn call n) := by
  intro args h r h2 e
  unfold ref17_Numbers_fn at e
  split at e
  · replace e := obind_some e; obtain ⟨t0, c0, e⟩ := e; have c0 := avAgg_some c0; subst c0
    exact ref17_Numbers_ok hc e
  · cases e

noncomputable def ref17_Form_L1b (call : CallF) (r12 : AV) (k19 : Bytes → AHeap → R) (self : Bytes → Int → AHeap → R) (t3_119 : Bytes) (t5 : Int) (h_120 : AHeap) : R :=
  obind (lenL r12) fun t15 =>
  lett (decide (t5 < t15)) fun (t16 : Bool) =>
  ifB t16
  (
    obind (idxP 1 r12 t5) fun t22 =>
    obind (ldCell h_120 t22) fun v23 =>
    obind (avInt .i64 v23) fun t23 =>
    lett (IntKind.u64.wrap t23) fun (t24 : Int) =>
    callN (call 35 [.int .u64 t24, .int .i64 8] h_120) fun r25 h_131 =>
    obind (avStr r25) fun t25 =>
    obind (addS t3_119 t25) fun t26 =>
    lett (IntKind.i64.wrap (t5 + 1)) fun (t18 : Int) =>
    self t26 t18 h_131)
  (
    k19 t3_119 h_120)
noncomputable def ref17_Form_L1 (call : CallF) (r12 : AV) (k19 : Bytes → AHeap → R) : Nat → Bytes → Int → AHeap → R := iterR (fun _ _ _ => none) (ref17_Form_L1b call r12 k19)
theorem ref17_Form_L1_s (call : CallF) (r12 : AV) (k19 : Bytes → AHeap → R) (m : Nat) : ref17_Form_L1 call r12 k19 (m + 1) = ref17_Form_L1b call r12 k19 (ref17_Form_L1 call r12 k19 m) := rfl
noncomputable def ref17_Form_L0b (call : CallF) (v1 : AV) (k80 : Bytes → AHeap → R) (self : Bytes → Int → AHeap → R) (t3_85 : Bytes) (t6 : Int) (h_86 : AHeap) : R :=
  obind (fldP 9 v1) fun t59 =>
  obind (ldCell h_86 t59) fun v60 =>
  obind (lenL v60) fun t61 =>
  lett (decide (t6 < t61)) fun (t62 : Bool) =>
  ifB t62
  (
    obind (fldP 9 v1) fun t66 =>
    obind (ldCell h_86 t66) fun v67 =>
    obind (idxP 2 v67 t6) fun t69 =>
    obind (fldP 0 t69) fun t70 =>
    obind (ldCell h_86 t70) fun v71 =>
    obind (avInt .i64 v71) fun t71 =>
    lett (IntKind.u64.wrap t71) fun (t72 : Int) =>
    obind (fldP 9 v1) fun t75 =>
    obind (ldCell h_86 t75) fun v76 =>
    obind (idxP 2 v76 t6) fun t78 =>
    obind (fldP 1 t78) fun t79 =>
    obind (ldCell h_86 t79) fun v80 =>
    obind (avStr v80) fun t80 =>
    callN (call 35 [.int .u64 t72, .int .i64 8] h_86) fun r73 h_108 =>
    obind (avStr r73) fun t73 =>
    chk (reLoad Try.prog h_108 9 t79 (strA t80) && (reLoad Try.prog h_108 26 t75 v76 && (true && (true && true)))) <|
    obind (addS t3_85 t73) fun t74 =>
    callN (call 37 [strA t80] h_108) fun r81 h_113 =>
    obind (avStr r81) fun t81 =>
    obind (addS t74 t81) fun t82 =>
    lett (IntKind.i64.wrap (t6 + 1)) fun (t64 : Int) =>
    self t82 t64 h_113)
  (
    k80 t3_85 h_86)
noncomputable def ref17_Form_L0 (call : CallF) (v1 : AV) (k80 : Bytes → AHeap → R) : Nat → Bytes → Int → AHeap → R := iterR (fun _ _ _ => none) (ref17_Form_L0b call v1 k80)
theorem ref17_Form_L0_s (call : CallF) (v1 : AV) (k80 : Bytes → AHeap → R) (m : Nat) : ref17_Form_L0 call v1 k80 (m + 1) = ref17_Form_L0b call v1 k80 (ref17_Form_L0 call v1 k80 m) := rfl
noncomputable def ref17_Form (call : CallF) (n : Nat) (t0 : List AV) (h : AHeap) : R :=
  outK (opBox h 30 (some (.agg t0))) fun v1 h_2 =>
  obind (fldP 0 v1) fun t7 =>
  obind (ldCell h_2 t7) fun v8 =>
  obind (avInt .u8 v8) fun t8 =>
  lett (IntKind.u64.wrap t8) fun (t9 : Int) =>
  callN (call 35 [.int .u64 t9, .int .i64 1] h_2) fun r10 h_9 =>
  obind (avStr r10) fun t10 =>
  obind (ldRow h_9 22 v1) fun t11 =>
  callN (call 34 [.agg t11] h_9) fun r12 h_14 =>
  lett (fun (t3 : Bytes) (h_20 : AHeap) =>
    obind (fldP 8 v1) fun t28 =>
    obind (ldCell h_20 t28) fun v29 =>
    obind (avBool v29) fun t29 =>
    obind (fldP 19 v1) fun t33 =>
    obind (ldCell h_20 t33) fun v34 =>
    obind (avInt .u8 v34) fun t34 =>
    lett (IntKind.u64.wrap t34) fun (t35 : Int) =>
    obind (fldP 20 v1) fun t38 =>
    obind (ldCell h_20 t38) fun v39 =>
    obind (avInt .i64 v39) fun t39 =>
    lett (IntKind.u64.wrap t39) fun (t40 : Int) =>
    obind (fldP 21 v1) fun t43 =>
    obind (ldCell h_20 t43) fun v44 =>
    obind (avInt .i64 v44) fun t44 =>
    lett (IntKind.u64.wrap t44) fun (t45 : Int) =>
    obind (fldP 12 v1) fun t48 =>
    obind (ldCell h_20 t48) fun v49 =>
    obind (avStr v49) fun t49 =>
    obind (fldP 9 v1) fun t52 =>
    obind (ldCell h_20 t52) fun v53 =>
    obind (lenL v53) fun t54 =>
    lett (IntKind.u64.wrap t54) fun (t55 : Int) =>
    callN (call 36 [.bool t29] h_20) fun r30 h_44 =>
    obind (avInt .u64 r30) fun t30 =>
    chk (reLoad Try.prog h_44 26 t52 v53 && (reLoad Try.prog h_44 9 t48 (strA t49) && (reLoad Try.prog h_44 3 t43 (.int .i64 t44) && (reLoad Try.prog h_44 23 t38 (.int .i64 t39) && (reLoad Try.prog h_44 5 t33 (.int .u8 t34) && (true && true)))))) <|
    callN (call 35 [.int .u64 t30, .int .i64 1] h_44) fun r31 h_48 =>
    obind (avStr r31) fun t31 =>
    chk (reLoad Try.prog h_48 26 t52 v53 && (reLoad Try.prog h_48 9 t48 (strA t49) && (reLoad Try.prog h_48 3 t43 (.int .i64 t44) && (reLoad Try.prog h_48 23 t38 (.int .i64 t39) && (reLoad Try.prog h_48 5 t33 (.int .u8 t34) && (true && true)))))) <|
    obind (addS t3 t31) fun t32 =>
    callN (call 35 [.int .u64 t35, .int .i64 1] h_48) fun r36 h_53 =>
    obind (avStr r36) fun t36 =>
    chk (reLoad Try.prog h_53 26 t52 v53 && (reLoad Try.prog h_53 9 t48 (strA t49) && (reLoad Try.prog h_53 3 t43 (.int .i64 t44) && (reLoad Try.prog h_53 23 t38 (.int .i64 t39) && (true && (true && true)))))) <|
    obind (addS t32 t36) fun t37 =>
    callN (call 35 [.int .u64 t40, .int .i64 4] h_53) fun r41 h_58 =>
    obind (avStr r41) fun t41 =>
    chk (reLoad Try.prog h_58 26 t52 v53 && (reLoad Try.prog h_58 9 t48 (strA t49) && (reLoad Try.prog h_58 3 t43 (.int .i64 t44) && (true && (true && (true && true)))))) <|
    obind (addS t37 t41) fun t42 =>
    callN (call 35 [.int .u64 t45, .int .i64 1] h_58) fun r46 h_63 =>
    obind (avStr r46) fun t46 =>
    chk (reLoad Try.prog h_63 26 t52 v53 && (reLoad Try.prog h_63 9 t48 (strA t49) && (true && (true && (true && (true && true)))))) <|
    obind (addS t42 t46) fun t47 =>
    callN (call 37 [strA t49] h_63) fun r50 h_68 =>
    obind (avStr r50) fun t50 =>
    chk (reLoad Try.prog h_68 26 t52 v53 && (true && (true && (true && (true && (true && true)))))) <|
    obind (addS t47 t50) fun t51 =>
    callN (call 35 [.int .u64 t55, .int .i64 1] h_68) fun r56 h_73 =>
    obind (avStr r56) fun t56 =>
    obind (addS t51 t56) fun t57 =>
    lett (fun (t3_81 : Bytes) (h_82 : AHeap) =>
      some (.ret (strA t3_81), h_82)) fun k80 =>
    ref17_Form_L0 call v1 k80 n t57 0 h_73) fun k19 =>
  ref17_Form_L1 call r12 k19 n t10 0 h_14
set_option maxHeartbeats 4000000 in
set_option maxRecDepth 20000 in
theorem ref17_Form_ok {call : CallF} (hc : SaysAll Try.prog call) {n : Nat} {t0 : List AV} {h : AHeap} {rR : ARes} {hR : AHeap} (hF : ref17_Form call n t0 h = some (rR, hR)) : Says Try.prog 18 [.agg t0] h rR hR := by
  unfold ref17_Form at hF
  refine says_of (fn := Try.f18) Try.func18 (c := codeOf Try.f18) (by kernel_rfl) (by kernel_rfl) (fun w0 m0 => ?_)
  refine W.weaken (l' := [(0, .agg t0)]) (Fr.c Fr.n) ?_
  refine W.s (fun K1 n1 e1 q1 p1 => ?_)
  refine W.r ?_
  replace hF := outK_some hF; obtain ⟨v1, h_2, e3, hF⟩ := hF
  refine WL.b (some 1) v1 h_2 e3 ?_
  refine WL.a (some 2) (strA ([] : Bytes)) h_2 ?_
  refine WL.n ?_
  refine Go.weaken (l' := [(1, v1)]) (Fr.c Fr.n) ?_
  refine n1 ?_
  refine W.s (fun K4 n4 e4 q4 p4 => ?_)
  refine W.r ?_
  replace hF := obind_some hF; obtain ⟨t7, e5, hF⟩ := hF
  refine WL.b (some 7) t7 h_2 (field_ptr (P := Try.prog) (h := h_2) (s := 30) (f := 0) (by kernel_rfl) e5) ?_
  replace hF := obind_some hF; obtain ⟨v8, e6, hF⟩ := hF
  replace hF := obind_some hF; obtain ⟨t8, c7, hF⟩ := hF
  have c7 := avInt_some c7
  subst c7
  refine WL.b (some 8) (.int .u8 t8) h_2 (load_cell (P := Try.prog) (h := h_2) (t := 5) (by kernel_rfl) e6) ?_
  replace hF := lett_some hF; obtain ⟨t9, e8, hF⟩ := hF
  refine WL.val (d := (some 9)) (v := .int .u64 t9) (h' := h_2) (by kernel_rfl) (by kernel_rfl) (val_of (AV.int .u64) e8 (by kernel_rfl)) ?_
  replace hF := callN_some hF; obtain ⟨r10, h_9, e10, hF⟩ := hF
  replace hF := obind_some hF; obtain ⟨t10, c11, hF⟩ := hF
  have c11 := avStr_some c11
  subst c11
  refine WL.c (hc.ok w0) (some 10) e10 ?_
  refine WL.a (some 3) (strA t10) h_9 ?_
  refine WL.n ?_
  refine Go.weaken (l' := [(1, v1), (3, strA t10)]) (Fr.c (Fr.c Fr.n)) ?_
  refine n4 ?_
  refine W.s (fun K12 n12 e12 q12 p12 => ?_)
  refine W.r ?_
  replace hF := obind_some hF; obtain ⟨t11, e13, hF⟩ := hF
  refine WL.b (some 11) (.agg t11) h_9 (load_row (P := Try.prog) (h := h_9) (t := 30) (by kernel_rfl) (by kernel_rfl) e13) ?_
  replace hF := callN_some hF; obtain ⟨r12, h_14, e15, hF⟩ := hF
  refine WL.c (hc.ok w0) (some 12) e15 ?_
  refine WL.a (some 4) r12 h_14 ?_
  refine WL.n ?_
  refine Go.weaken (l' := [(1, v1), (3, strA t10), (4, r12)]) (Fr.c (Fr.c (Fr.c Fr.n))) ?_
  refine n12 ?_
  refine W.s (fun K16 n16 e16 q16 p16 => ?_)
  refine W.s (fun K17 n17 e17 q17 p17 => ?_)
  refine W.r ?_
  refine WL.a (some 5) (.int .i64 0) h_14 ?_
  refine WL.n ?_
  refine Go.weaken (l' := [(1, v1), (3, strA t10), (4, r12), (5, .int .i64 0)]) (Fr.c (Fr.c (Fr.c (Fr.c Fr.n)))) ?_
  refine n17 ?_
  replace hF := lett_some hF; obtain ⟨k19, e19, hF⟩ := hF
  have J19 : ∀ (t3 : Bytes) (h_20 : AHeap), k19 t3 h_20 = some (rR, hR) → Go w0 m0 (Func.ntmps Try.f18) (K16 .normal) [(1, v1), (3, strA t3)] [] h_20 := by
    intro t3 h_20 hF
    rw [e19] at hF
    refine n16 ?_
    refine W.s (fun K21 n21 e21 q21 p21 => ?_)
    refine W.draw (by kernel_rfl) (hc.ok w0) (plan := [0, 1, 2, 6, 7, 8, 11, 12, 13, 16, 17, 18, 21, 22, 25, 26, 27, 28, 3, 4, 5, 9, 10, 14, 15, 19, 20, 23, 24, 29, 30, 31]) (by kernel_rfl) (by kernel_rfl) (by kernel_rfl) ?_
    refine WD.a 0 (some 27) (strA t3) h_20 ?_
    replace hF := obind_some hF; obtain ⟨t28, e22, hF⟩ := hF
    refine WD.b 0 (some 28) t28 h_20 (field_ptr (P := Try.prog) (h := h_20) (s := 30) (f := 8) (by kernel_rfl) e22) ?_
    replace hF := obind_some hF; obtain ⟨v29, e23, hF⟩ := hF
    replace hF := obind_some hF; obtain ⟨t29, c24, hF⟩ := hF
    have c24 := avBool_some c24
    subst c24
    refine WD.b 1 (some 29) (.bool t29) h_20 (load_cell (P := Try.prog) (h := h_20) (t := 4) (by kernel_rfl) e23) ?_
    replace hF := obind_some hF; obtain ⟨t33, e25, hF⟩ := hF
    refine WD.b 0 (some 33) t33 h_20 (field_ptr (P := Try.prog) (h := h_20) (s := 30) (f := 18) (by kernel_rfl) e25) ?_
    replace hF := obind_some hF; obtain ⟨v34, e26, hF⟩ := hF
    replace hF := obind_some hF; obtain ⟨t34, c27, hF⟩ := hF
    have c27 := avInt_some c27
    subst c27
    refine WD.b 1 (some 34) (.int .u8 t34) h_20 (load_cell (P := Try.prog) (h := h_20) (t := 5) (by kernel_rfl) e26) ?_
    replace hF := lett_some hF; obtain ⟨t35, e28, hF⟩ := hF
    refine WD.val (d := (some 35)) (v := .int .u64 t35) (h' := h_20) (by kernel_rfl) (by kernel_rfl) (val_of (AV.int .u64) e28 (by kernel_rfl)) (k := 0) (by kernel_rfl) (fun e => absurd e (by decide)) (by decide) ?_
    replace hF := obind_some hF; obtain ⟨t38, e29, hF⟩ := hF
    refine WD.b 0 (some 38) t38 h_20 (field_ptr (P := Try.prog) (h := h_20) (s := 30) (f := 19) (by kernel_rfl) e29) ?_
    replace hF := obind_some hF; obtain ⟨v39, e30, hF⟩ := hF
    replace hF := obind_some hF; obtain ⟨t39, c31, hF⟩ := hF
    have c31 := avInt_some c31
    subst c31
    refine WD.b 1 (some 39) (.int .i64 t39) h_20 (load_cell (P := Try.prog) (h := h_20) (t := 23) (by kernel_rfl) e30) ?_
    replace hF := lett_some hF; obtain ⟨t40, e32, hF⟩ := hF
    refine WD.val (d := (some 40)) (v := .int .u64 t40) (h' := h_20) (by kernel_rfl) (by kernel_rfl) (val_of (AV.int .u64) e32 (by kernel_rfl)) (k := 0) (by kernel_rfl) (fun e => absurd e (by decide)) (by decide) ?_
    replace hF := obind_some hF; obtain ⟨t43, e33, hF⟩ := hF
    refine WD.b 0 (some 43) t43 h_20 (field_ptr (P := Try.prog) (h := h_20) (s := 30) (f := 20) (by kernel_rfl) e33) ?_
    replace hF := obind_some hF; obtain ⟨v44, e34, hF⟩ := hF
    replace hF := obind_some hF; obtain ⟨t44, c35, hF⟩ := hF
    have c35 := avInt_some c35
    subst c35
    refine WD.b 1 (some 44) (.int .i64 t44) h_20 (load_cell (P := Try.prog) (h := h_20) (t := 3) (by kernel_rfl) e34) ?_
    replace hF := lett_some hF; obtain ⟨t45, e36, hF⟩ := hF
    refine WD.val (d := (some 45)) (v := .int .u64 t45) (h' := h_20) (by kernel_rfl) (by kernel_rfl) (val_of (AV.int .u64) e36 (by kernel_rfl)) (k := 0) (by kernel_rfl) (fun e => absurd e (by decide)) (by decide) ?_
    replace hF := obind_some hF; obtain ⟨t48, e37, hF⟩ := hF
    refine WD.b 0 (some 48) t48 h_20 (field_ptr (P := Try.prog) (h := h_20) (s := 30) (f := 12) (by kernel_rfl) e37) ?_
    replace hF := obind_some hF; obtain ⟨v49, e38, hF⟩ := hF
    replace hF := obind_some hF; obtain ⟨t49, c39, hF⟩ := hF
    have c39 := avStr_some c39
    subst c39
    refine WD.b 1 (some 49) (strA t49) h_20 (load_cell (P := Try.prog) (h := h_20) (t := 9) (by kernel_rfl) e38) ?_
    replace hF := obind_some hF; obtain ⟨t52, e40, hF⟩ := hF
    refine WD.b 0 (some 52) t52 h_20 (field_ptr (P := Try.prog) (h := h_20) (s := 30) (f := 9) (by kernel_rfl) e40) ?_
    replace hF := obind_some hF; obtain ⟨v53, e41, hF⟩ := hF
    refine WD.b 1 (some 53) v53 h_20 (load_cell (P := Try.prog) (h := h_20) (t := 26) (by kernel_rfl) e41) ?_
    replace hF := obind_some hF; obtain ⟨t54, e42, hF⟩ := hF
    refine WD.b 0 (some 54) (.int .i64 t54) h_20 (len_row (P := Try.prog) (h := h_20) (t := 26) (e' := 42) (by kernel_rfl) e42) ?_
    replace hF := lett_some hF; obtain ⟨t55, e43, hF⟩ := hF
    refine WD.val (d := (some 55)) (v := .int .u64 t55) (h' := h_20) (by kernel_rfl) (by kernel_rfl) (val_of (AV.int .u64) e43 (by kernel_rfl)) (k := 0) (by kernel_rfl) (fun e => absurd e (by decide)) (by decide) ?_
    replace hF := callN_some hF; obtain ⟨r30, h_44, e45, hF⟩ := hF
    replace hF := obind_some hF; obtain ⟨t30, c46, hF⟩ := hF
    have c46 := avInt_some c46
    subst c46
    replace hF := chk_some hF; obtain ⟨k47, hF⟩ := hF
    refine WD.call (d := (some 30)) (by kernel_rfl) (by kernel_rfl) (by kernel_rfl) e45 (k := 2) (by kernel_rfl) (fun _ => (Eq.trans (by kernel_rfl) k47)) (by decide) ?_
    replace hF := callN_some hF; obtain ⟨r31, h_48, e49, hF⟩ := hF
    replace hF := obind_some hF; obtain ⟨t31, c50, hF⟩ := hF
    have c50 := avStr_some c50
    subst c50
    replace hF := chk_some hF; obtain ⟨k51, hF⟩ := hF
    refine WD.call (d := (some 31)) (by kernel_rfl) (by kernel_rfl) (by kernel_rfl) e49 (k := 2) (by kernel_rfl) (fun _ => (Eq.trans (by kernel_rfl) k51)) (by decide) ?_
    replace hF := obind_some hF; obtain ⟨t32, e52, hF⟩ := hF
    refine WD.b 0 (some 32) (strA t32) h_48 (add_str (P := Try.prog) (h := h_48) (t := 9) (lit := false) e52) ?_
    replace hF := callN_some hF; obtain ⟨r36, h_53, e54, hF⟩ := hF
    replace hF := obind_some hF; obtain ⟨t36, c55, hF⟩ := hF
    have c55 := avStr_some c55
    subst c55
    replace hF := chk_some hF; obtain ⟨k56, hF⟩ := hF
    refine WD.call (d := (some 36)) (by kernel_rfl) (by kernel_rfl) (by kernel_rfl) e54 (k := 2) (by kernel_rfl) (fun _ => (Eq.trans (by kernel_rfl) k56)) (by decide) ?_
    replace hF := obind_some hF; obtain ⟨t37, e57, hF⟩ := hF
    refine WD.b 0 (some 37) (strA t37) h_53 (add_str (P := Try.prog) (h := h_53) (t := 9) (lit := false) e57) ?_
    replace hF := callN_some hF; obtain ⟨r41, h_58, e59, hF⟩ := hF
    replace hF := obind_some hF; obtain ⟨t41, c60, hF⟩ := hF
    have c60 := avStr_some c60
    subst c60
    replace hF := chk_some hF; obtain ⟨k61, hF⟩ := hF
    refine WD.call (d := (some 41)) (by kernel_rfl) (by kernel_rfl) (by kernel_rfl) e59 (k := 2) (by kernel_rfl) (fun _ => (Eq.trans (by kernel_rfl) k61)) (by decide) ?_
    replace hF := obind_some hF; obtain ⟨t42, e62, hF⟩ := hF
    refine WD.b 0 (some 42) (strA t42) h_58 (add_str (P := Try.prog) (h := h_58) (t := 9) (lit := false) e62) ?_
    replace hF := callN_some hF; obtain ⟨r46, h_63, e64, hF⟩ := hF
    replace hF := obind_some hF; obtain ⟨t46, c65, hF⟩ := hF
    have c65 := avStr_some c65
    subst c65
    replace hF := chk_some hF; obtain ⟨k66, hF⟩ := hF
    refine WD.call (d := (some 46)) (by kernel_rfl) (by kernel_rfl) (by kernel_rfl) e64 (k := 2) (by kernel_rfl) (fun _ => (Eq.trans (by kernel_rfl) k66)) (by decide) ?_
    replace hF := obind_some hF; obtain ⟨t47, e67, hF⟩ := hF
    refine WD.b 0 (some 47) (strA t47) h_63 (add_str (P := Try.prog) (h := h_63) (t := 9) (lit := false) e67) ?_
    replace hF := callN_some hF; obtain ⟨r50, h_68, e69, hF⟩ := hF
    replace hF := obind_some hF; obtain ⟨t50, c70, hF⟩ := hF
    have c70 := avStr_some c70
    subst c70
    replace hF := chk_some hF; obtain ⟨k71, hF⟩ := hF
    refine WD.call (d := (some 50)) (by kernel_rfl) (by kernel_rfl) (by kernel_rfl) e69 (k := 2) (by kernel_rfl) (fun _ => (Eq.trans (by kernel_rfl) k71)) (by decide) ?_
    replace hF := obind_some hF; obtain ⟨t51, e72, hF⟩ := hF
    refine WD.b 0 (some 51) (strA t51) h_68 (add_str (P := Try.prog) (h := h_68) (t := 9) (lit := false) e72) ?_
    replace hF := callN_some hF; obtain ⟨r56, h_73, e74, hF⟩ := hF
    replace hF := obind_some hF; obtain ⟨t56, c75, hF⟩ := hF
    have c75 := avStr_some c75
    subst c75
    refine WD.call (d := (some 56)) (by kernel_rfl) (by kernel_rfl) (by kernel_rfl) e74 (k := 2) (by kernel_rfl) (fun _ => (by kernel_rfl)) (by decide) ?_
    replace hF := obind_some hF; obtain ⟨t57, e76, hF⟩ := hF
    refine WD.b 0 (some 57) (strA t57) h_73 (add_str (P := Try.prog) (h := h_73) (t := 9) (lit := false) e76) ?_
    refine WD.val (d := (some 3)) (v := strA t57) (h' := h_73) (by kernel_rfl) (by kernel_rfl) (by kernel_rfl) (k := 2) (by kernel_rfl) (fun _ => (by kernel_rfl)) (by decide) ?_
    refine WD.nil ?_
    refine Go.weaken (l' := [(1, v1), (3, strA t57)]) (Fr.c (Fr.c Fr.n)) ?_
    refine n21 ?_
    refine W.s (fun K77 n77 e77 q77 p77 => ?_)
    refine W.s (fun K78 n78 e78 q78 p78 => ?_)
    refine W.r ?_
    refine WL.a (some 6) (.int .i64 0) h_73 ?_
    refine WL.n ?_
    refine Go.weaken (l' := [(1, v1), (3, strA t57), (6, .int .i64 0)]) (Fr.c (Fr.c (Fr.c Fr.n))) ?_
    refine n78 ?_
    replace hF := lett_some hF; obtain ⟨k80, e80, hF⟩ := hF
    have J80 : ∀ (t3_81 : Bytes) (h_82 : AHeap), k80 t3_81 h_82 = some (rR, hR) → Go w0 m0 (Func.ntmps Try.f18) (K77 .normal) [(3, strA t3_81)] [] h_82 := by
      intro t3_81 h_82 hF
      rw [e80] at hF
      refine n77 ?_
      refine W.s (fun K83 n83 e83 q83 p83 => ?_)
      refine W.r ?_
      refine WL.a (some 83) (strA t3_81) h_82 ?_
      refine WL.a (some 2) (strA t3_81) h_82 ?_
      refine WL.n ?_
      refine Go.weaken (l' := [(2, strA t3_81)]) (Fr.c Fr.n) ?_
      refine n83 ?_
      refine W.ret (by kernel_rfl) ?_
      obtain ⟨hF, hF2⟩ := ret_inj hF; subst hF; subst hF2
      exact leave_of (rs := [.tmp 2]) (vs := [strA t3_81]) (by kernel_rfl) (res_tmp (by kernel_rfl) res_nil) (by kernel_rfl)
    refine W.blockK (by kernel_rfl) (fun K79 n79 s79 o79 q79 p79 => ?_)
    refine W.loopK (by kernel_rfl) (fun I84 K84 b84 n84 e84 q84 p84 => ?_)
    have L84 : ∀ (m : Nat) (t3_85 : Bytes) (t6 : Int) (h_86 : AHeap), ref17_Form_L0 call v1 k80 m t3_85 t6 h_86 = some (rR, hR) → Go w0 m0 (Func.ntmps Try.f18) I84 [(1, v1), (3, strA t3_85), (6, .int .i64 t6)] [] h_86 := by
      intro m
      induction m with
      | zero => intro t3_85 t6 h_86 hF; cases hF
      | succ m ih84 =>
        intro t3_85 t6 h_86 hF
        rw [ref17_Form_L0_s] at hF; unfold ref17_Form_L0b at hF
        refine b84 ?_
        refine W.s (fun K87 n87 e87 q87 p87 => ?_)
        refine W.s (fun K88 n88 e88 q88 p88 => ?_)
        refine W.r ?_
        refine WL.a (some 58) (.int .i64 t6) h_86 ?_
        replace hF := obind_some hF; obtain ⟨t59, e89, hF⟩ := hF
        refine WL.b (some 59) t59 h_86 (field_ptr (P := Try.prog) (h := h_86) (s := 30) (f := 9) (by kernel_rfl) e89) ?_
        replace hF := obind_some hF; obtain ⟨v60, e90, hF⟩ := hF
        refine WL.b (some 60) v60 h_86 (load_cell (P := Try.prog) (h := h_86) (t := 26) (by kernel_rfl) e90) ?_
        replace hF := obind_some hF; obtain ⟨t61, e91, hF⟩ := hF
        refine WL.b (some 61) (.int .i64 t61) h_86 (len_row (P := Try.prog) (h := h_86) (t := 26) (e' := 42) (by kernel_rfl) e91) ?_
        replace hF := lett_some hF; obtain ⟨t62, e92, hF⟩ := hF
        refine WL.val (d := (some 62)) (v := .bool t62) (h' := h_86) (by kernel_rfl) (by kernel_rfl) (val_of AV.bool e92 (by kernel_rfl)) ?_
        refine WL.n ?_
        refine Go.weaken (l' := [(1, v1), (3, strA t3_85), (6, .int .i64 t6), (62, .bool t62)]) (Fr.c (Fr.c (Fr.c (Fr.c Fr.n)))) ?_
        refine n88 ?_
        cases t62 with
        | true =>
          replace hF := ifB_t hF
          refine W.t ?_
          refine W.skip (by kernel_rfl) ?_
          refine n87 ?_
          refine W.s (fun K93 n93 e93 q93 p93 => ?_)
          refine W.blockK (by kernel_rfl) (fun K94 n94 s94 o94 q94 p94 => ?_)
          refine W.draw (by kernel_rfl) (hc.ok w0) (plan := [0, 1, 2, 3, 4, 5, 6, 7, 10, 11, 12, 13, 14, 15, 8, 9, 16, 17, 18]) (by kernel_rfl) (by kernel_rfl) (by kernel_rfl) ?_
          refine WD.a 0 (some 65) (strA t3_85) h_86 ?_
          replace hF := obind_some hF; obtain ⟨t66, e95, hF⟩ := hF
          refine WD.b 0 (some 66) t66 h_86 (field_ptr (P := Try.prog) (h := h_86) (s := 30) (f := 9) (by kernel_rfl) e95) ?_
          replace hF := obind_some hF; obtain ⟨v67, e96, hF⟩ := hF
          refine WD.b 1 (some 67) v67 h_86 (load_cell (P := Try.prog) (h := h_86) (t := 26) (by kernel_rfl) e96) ?_
          refine WD.a 0 (some 68) (.int .i64 t6) h_86 ?_
          replace hF := obind_some hF; obtain ⟨t69, e97, hF⟩ := hF
          refine WD.b 0 (some 69) t69 h_86 (index_row (P := Try.prog) (h := h_86) (t := 26) (e' := 42) (k := .i64) (by kernel_rfl) (by kernel_rfl) (by kernel_rfl) e97) ?_
          replace hF := obind_some hF; obtain ⟨t70, e98, hF⟩ := hF
          refine WD.b 0 (some 70) t70 h_86 (field_ptr (P := Try.prog) (h := h_86) (s := 42) (f := 0) (by kernel_rfl) e98) ?_
          replace hF := obind_some hF; obtain ⟨v71, e99, hF⟩ := hF
          replace hF := obind_some hF; obtain ⟨t71, c100, hF⟩ := hF
          have c100 := avInt_some c100
          subst c100
          refine WD.b 1 (some 71) (.int .i64 t71) h_86 (load_cell (P := Try.prog) (h := h_86) (t := 3) (by kernel_rfl) e99) ?_
          replace hF := lett_some hF; obtain ⟨t72, e101, hF⟩ := hF
          refine WD.val (d := (some 72)) (v := .int .u64 t72) (h' := h_86) (by kernel_rfl) (by kernel_rfl) (val_of (AV.int .u64) e101 (by kernel_rfl)) (k := 0) (by kernel_rfl) (fun e => absurd e (by decide)) (by decide) ?_
          replace hF := obind_some hF; obtain ⟨t75, e102, hF⟩ := hF
          refine WD.b 0 (some 75) t75 h_86 (field_ptr (P := Try.prog) (h := h_86) (s := 30) (f := 9) (by kernel_rfl) e102) ?_
          replace hF := obind_some hF; obtain ⟨v76, e103, hF⟩ := hF
          refine WD.b 1 (some 76) v76 h_86 (load_cell (P := Try.prog) (h := h_86) (t := 26) (by kernel_rfl) e103) ?_
          refine WD.a 0 (some 77) (.int .i64 t6) h_86 ?_
          replace hF := obind_some hF; obtain ⟨t78, e104, hF⟩ := hF
          refine WD.b 0 (some 78) t78 h_86 (index_row (P := Try.prog) (h := h_86) (t := 26) (e' := 42) (k := .i64) (by kernel_rfl) (by kernel_rfl) (by kernel_rfl) e104) ?_
          replace hF := obind_some hF; obtain ⟨t79, e105, hF⟩ := hF
          refine WD.b 0 (some 79) t79 h_86 (field_ptr (P := Try.prog) (h := h_86) (s := 42) (f := 1) (by kernel_rfl) e105) ?_
          replace hF := obind_some hF; obtain ⟨v80, e106, hF⟩ := hF
          replace hF := obind_some hF; obtain ⟨t80, c107, hF⟩ := hF
          have c107 := avStr_some c107
          subst c107
          refine WD.b 1 (some 80) (strA t80) h_86 (load_cell (P := Try.prog) (h := h_86) (t := 9) (by kernel_rfl) e106) ?_
          replace hF := callN_some hF; obtain ⟨r73, h_108, e109, hF⟩ := hF
          replace hF := obind_some hF; obtain ⟨t73, c110, hF⟩ := hF
          have c110 := avStr_some c110
          subst c110
          replace hF := chk_some hF; obtain ⟨k111, hF⟩ := hF
          refine WD.call (d := (some 73)) (by kernel_rfl) (by kernel_rfl) (by kernel_rfl) e109 (k := 2) (by kernel_rfl) (fun _ => (Eq.trans (by kernel_rfl) k111)) (by decide) ?_
          replace hF := obind_some hF; obtain ⟨t74, e112, hF⟩ := hF
          refine WD.b 0 (some 74) (strA t74) h_108 (add_str (P := Try.prog) (h := h_108) (t := 9) (lit := false) e112) ?_
          replace hF := callN_some hF; obtain ⟨r81, h_113, e114, hF⟩ := hF
          replace hF := obind_some hF; obtain ⟨t81, c115, hF⟩ := hF
          have c115 := avStr_some c115
          subst c115
          refine WD.call (d := (some 81)) (by kernel_rfl) (by kernel_rfl) (by kernel_rfl) e114 (k := 2) (by kernel_rfl) (fun _ => (by kernel_rfl)) (by decide) ?_
          replace hF := obind_some hF; obtain ⟨t82, e116, hF⟩ := hF
          refine WD.b 0 (some 82) (strA t82) h_113 (add_str (P := Try.prog) (h := h_113) (t := 9) (lit := false) e116) ?_
          refine WD.val (d := (some 3)) (v := strA t82) (h' := h_113) (by kernel_rfl) (by kernel_rfl) (by kernel_rfl) (k := 2) (by kernel_rfl) (fun _ => (by kernel_rfl)) (by decide) ?_
          refine WD.nil ?_
          refine Go.weaken (l' := [(1, v1), (3, strA t82), (6, .int .i64 t6)]) (Fr.c (Fr.c (Fr.c Fr.n))) ?_
          refine n94 ?_
          refine n93 ?_
          refine W.r ?_
          refine WL.a (some 63) (.int .i64 t6) h_113 ?_
          replace hF := lett_some hF; obtain ⟨t64, e117, hF⟩ := hF
          refine WL.val (d := (some 64)) (v := .int .i64 t64) (h' := h_113) (by kernel_rfl) (by kernel_rfl) (val_of (AV.int .i64) e117 (by kernel_rfl)) ?_
          refine WL.a (some 6) (.int .i64 t64) h_113 ?_
          refine WL.n ?_
          refine Go.weaken (l' := [(1, v1), (3, strA t82), (6, .int .i64 t64)]) (Fr.c (Fr.c (Fr.c Fr.n))) ?_
          refine n84 ?_
          exact Go.weaken (Fr.c (Fr.c (Fr.c Fr.n))) (ih84 _ _ _ hF)
        | false =>
          replace hF := ifB_f hF
          refine W.f ?_
          refine W.exit (by kernel_rfl) ?_
          refine e87 ?_
          refine e84 ?_
          refine s79 (by kernel_rfl) ?_
          exact Go.weaken (Fr.c Fr.n) (J80 _ _ hF)
    exact Go.weaken (Fr.c (Fr.c (Fr.c Fr.n))) (L84 _ _ _ _ hF)
  refine W.blockK (by kernel_rfl) (fun K18 n18 s18 o18 q18 p18 => ?_)
  refine W.loopK (by kernel_rfl) (fun I118 K118 b118 n118 e118 q118 p118 => ?_)
  have L118 : ∀ (m : Nat) (t3_119 : Bytes) (t5 : Int) (h_120 : AHeap), ref17_Form_L1 call r12 k19 m t3_119 t5 h_120 = some (rR, hR) → Go w0 m0 (Func.ntmps Try.f18) I118 [(1, v1), (3, strA t3_119), (4, r12), (5, .int .i64 t5)] [] h_120 := by
    intro m
    induction m with
    | zero => intro t3_119 t5 h_120 hF; cases hF
    | succ m ih118 =>
      intro t3_119 t5 h_120 hF
      rw [ref17_Form_L1_s] at hF; unfold ref17_Form_L1b at hF
      refine b118 ?_
      refine W.s (fun K121 n121 e121 q121 p121 => ?_)
      refine W.s (fun K122 n122 e122 q122 p122 => ?_)
      refine W.r ?_
      refine WL.a (some 13) (.int .i64 t5) h_120 ?_
      refine WL.a (some 14) r12 h_120 ?_
      replace hF := obind_some hF; obtain ⟨t15, e123, hF⟩ := hF
      refine WL.b (some 15) (.int .i64 t15) h_120 (len_row (P := Try.prog) (h := h_120) (t := 79) (e' := 3) (by kernel_rfl) e123) ?_
      replace hF := lett_some hF; obtain ⟨t16, e124, hF⟩ := hF
      refine WL.val (d := (some 16)) (v := .bool t16) (h' := h_120) (by kernel_rfl) (by kernel_rfl) (val_of AV.bool e124 (by kernel_rfl)) ?_
      refine WL.n ?_
      refine Go.weaken (l' := [(1, v1), (3, strA t3_119), (4, r12), (5, .int .i64 t5), (16, .bool t16)]) (Fr.c (Fr.c (Fr.c (Fr.c (Fr.c Fr.n))))) ?_
      refine n122 ?_
      cases t16 with
      | true =>
        replace hF := ifB_t hF
        refine W.t ?_
        refine W.skip (by kernel_rfl) ?_
        refine n121 ?_
        refine W.s (fun K125 n125 e125 q125 p125 => ?_)
        refine W.blockK (by kernel_rfl) (fun K126 n126 s126 o126 q126 p126 => ?_)
        refine W.r ?_
        refine WL.a (some 19) (strA t3_119) h_120 ?_
        refine WL.a (some 20) r12 h_120 ?_
        refine WL.a (some 21) (.int .i64 t5) h_120 ?_
        replace hF := obind_some hF; obtain ⟨t22, e127, hF⟩ := hF
        refine WL.b (some 22) t22 h_120 (index_row (P := Try.prog) (h := h_120) (t := 79) (e' := 3) (k := .i64) (by kernel_rfl) (by kernel_rfl) (by kernel_rfl) e127) ?_
        replace hF := obind_some hF; obtain ⟨v23, e128, hF⟩ := hF
        replace hF := obind_some hF; obtain ⟨t23, c129, hF⟩ := hF
        have c129 := avInt_some c129
        subst c129
        refine WL.b (some 23) (.int .i64 t23) h_120 (load_cell (P := Try.prog) (h := h_120) (t := 3) (by kernel_rfl) e128) ?_
        replace hF := lett_some hF; obtain ⟨t24, e130, hF⟩ := hF
        refine WL.val (d := (some 24)) (v := .int .u64 t24) (h' := h_120) (by kernel_rfl) (by kernel_rfl) (val_of (AV.int .u64) e130 (by kernel_rfl)) ?_
        replace hF := callN_some hF; obtain ⟨r25, h_131, e132, hF⟩ := hF
        replace hF := obind_some hF; obtain ⟨t25, c133, hF⟩ := hF
        have c133 := avStr_some c133
        subst c133
        refine WL.c (hc.ok w0) (some 25) e132 ?_
        replace hF := obind_some hF; obtain ⟨t26, e134, hF⟩ := hF
        refine WL.b (some 26) (strA t26) h_131 (add_str (P := Try.prog) (h := h_131) (t := 9) (lit := false) e134) ?_
        refine WL.a (some 3) (strA t26) h_131 ?_
        refine WL.n ?_
        refine Go.weaken (l' := [(1, v1), (3, strA t26), (4, r12), (5, .int .i64 t5)]) (Fr.c (Fr.c (Fr.c (Fr.c Fr.n)))) ?_
        refine n126 ?_
        refine n125 ?_
        refine W.r ?_
        refine WL.a (some 17) (.int .i64 t5) h_131 ?_
        replace hF := lett_some hF; obtain ⟨t18, e135, hF⟩ := hF
        refine WL.val (d := (some 18)) (v := .int .i64 t18) (h' := h_131) (by kernel_rfl) (by kernel_rfl) (val_of (AV.int .i64) e135 (by kernel_rfl)) ?_
        refine WL.a (some 5) (.int .i64 t18) h_131 ?_
        refine WL.n ?_
        refine Go.weaken (l' := [(1, v1), (3, strA t26), (4, r12), (5, .int .i64 t18)]) (Fr.c (Fr.c (Fr.c (Fr.c Fr.n)))) ?_
        refine n118 ?_
        exact Go.weaken (Fr.c (Fr.c (Fr.c (Fr.c Fr.n)))) (ih118 _ _ _ hF)
      | false =>
        replace hF := ifB_f hF
        refine W.f ?_
        refine W.exit (by kernel_rfl) ?_
        refine e121 ?_
        refine e118 ?_
        refine s18 (by kernel_rfl) ?_
        exact Go.weaken (Fr.c (Fr.c Fr.n)) (J19 _ _ hF)
  exact Go.weaken (Fr.c (Fr.c (Fr.c (Fr.c Fr.n)))) (L118 _ _ _ _ hF)
noncomputable def ref17_Form_fn (call : CallF) (n : Nat) : FnT := fun args h => match args with
  | [x0] => obind (avAgg x0) fun t0 => ref17_Form call n t0 h
  | _ => none
set_option maxRecDepth 100000 in
theorem ref17_Form_fn_eq (call : CallF) (n : Nat) (t0 : List AV) (h : AHeap) : ref17_Form_fn call n [.agg t0] h = ref17_Form call n t0 h :=
  (Eq.trans (obind_eq (fun t0 => ref17_Form call n t0 h) (avAgg_agg t0)) rfl)
theorem ref17_Form_holds {call : CallF} (hc : SaysAll Try.prog call) (n : Nat) : Holds Try.prog 18 (ref17_Form_fn call n) := by
  intro args h r h2 e
  unfold ref17_Form_fn at e
  split at e
  · replace e := obind_some e; obtain ⟨t0, c0, e⟩ := e; have c0 := avAgg_some c0; subst c0
    exact ref17_Form_ok hc e
  · cases e

noncomputable def ref17_Same_L1b (r10 : AV) (r12 : AV) (k17 : AHeap → R) (self : Int → AHeap → R) (t7 : Int) (h_120 : AHeap) : R :=
  obind (lenL r10) fun t15 =>
  lett (decide (t7 < t15)) fun (t16 : Bool) =>
  ifB t16
  (
    obind (idxP 1 r10 t7) fun t21 =>
    obind (ldCell h_120 t21) fun v22 =>
    obind (avInt .i64 v22) fun t22 =>
    obind (idxP 1 r12 t7) fun t25 =>
    obind (ldCell h_120 t25) fun v26 =>
    obind (avInt .i64 v26) fun t26 =>
    lett ((t22 : Int) != t26) fun (t27 : Bool) =>
    ifB t27
    (
      some (.ret (.bool false), h_120))
    (
      lett (IntKind.i64.wrap (t7 + 1)) fun (t18 : Int) =>
      self t18 h_120))
  (
    k17 h_120)
noncomputable def ref17_Same_L1 (r10 : AV) (r12 : AV) (k17 : AHeap → R) : Nat → Int → AHeap → R := iterR (fun _ _ => none) (ref17_Same_L1b r10 r12 k17)
theorem ref17_Same_L1_s (r10 : AV) (r12 : AV) (k17 : AHeap → R) (m : Nat) : ref17_Same_L1 r10 r12 k17 (m + 1) = ref17_Same_L1b r10 r12 k17 (ref17_Same_L1 r10 r12 k17 m) := rfl
noncomputable def ref17_Same_L0b (v2 : AV) (v3 : AV) (k50 : AHeap → R) (self : Int → AHeap → R) (t8 : Int) (h_54 : AHeap) : R :=
  obind (fldP 9 v2) fun t78 =>
  obind (ldCell h_54 t78) fun v79 =>
  obind (lenL v79) fun t80 =>
  lett (decide (t8 < t80)) fun (t81 : Bool) =>
  ifB t81
  (
    obind (fldP 9 v2) fun t84 =>
    obind (ldCell h_54 t84) fun v85 =>
    obind (idxP 2 v85 t8) fun t87 =>
    obind (ldRow h_54 2 t87) fun t88 =>
    obind (fldP 9 v3) fun t89 =>
    obind (ldCell h_54 t89) fun v90 =>
    obind (idxP 2 v90 t8) fun t92 =>
    obind (ldRow h_54 2 t92) fun t93 =>
    obind (eqOther Try.prog 42 (.agg t88) (.agg t93)) fun t94 =>
    lett (!t94) fun (t94_73 : Bool) =>
    ifB t94_73
    (
      some (.ret (.bool false), h_54))
    (
      lett (IntKind.i64.wrap (t8 + 1)) fun (t83 : Int) =>
      self t83 h_54))
  (
    k50 h_54)
noncomputable def ref17_Same_L0 (v2 : AV) (v3 : AV) (k50 : AHeap → R) : Nat → Int → AHeap → R := iterR (fun _ _ => none) (ref17_Same_L0b v2 v3 k50)
theorem ref17_Same_L0_s (v2 : AV) (v3 : AV) (k50 : AHeap → R) (m : Nat) : ref17_Same_L0 v2 v3 k50 (m + 1) = ref17_Same_L0b v2 v3 k50 (ref17_Same_L0 v2 v3 k50 m) := rfl
noncomputable def ref17_Same (call : CallF) (n : Nat) (t0 : List AV) (t1 : List AV) (h : AHeap) : R :=
  outK (opBox h 30 (some (.agg t0))) fun v2 h_2 =>
  outK (opBox h_2 30 (some (.agg t1))) fun v3 h_4 =>
  obind (ldRow h_4 22 v2) fun t9 =>
  obind (ldRow h_4 22 v3) fun t11 =>
  callN (call 34 [.agg t9] h_4) fun r10 h_9 =>
  chk (reLoad Try.prog h_9 30 v3 (.agg t11) && (true && true)) <|
  callN (call 34 [.agg t11] h_9) fun r12 h_12 =>
  lett (fun  (h_18 : AHeap) =>
    obind (fldP 0 v2) fun t28 =>
    obind (ldCell h_18 t28) fun v29 =>
    obind (avInt .u8 v29) fun t29 =>
    obind (fldP 0 v3) fun t30 =>
    obind (ldCell h_18 t30) fun v31 =>
    obind (avInt .u8 v31) fun t31 =>
    lett ((t29 : Int) != t31) fun (t32 : Bool) =>
    lett (fun (t39 : Bool) (h_28 : AHeap) =>
      lett (fun (t46 : Bool) (h_31 : AHeap) =>
        lett (fun (t53 : Bool) (h_34 : AHeap) =>
          lett (fun (t60 : Bool) (h_37 : AHeap) =>
            lett (fun (t67 : Bool) (h_40 : AHeap) =>
              lett (fun (t76 : Bool) (h_43 : AHeap) =>
                ifB t76
                (
                  some (.ret (.bool false), h_43))
                (
                  lett (fun  (h_51 : AHeap) =>
                    some (.ret (.bool true), h_51)) fun k50 =>
                  ref17_Same_L0 v2 v3 k50 n 0 h_43)) fun j76 =>
              ifB t67
              (
                j76 true h_40)
              (
                obind (fldP 9 v2) fun t69 =>
                obind (ldCell h_40 t69) fun v70 =>
                obind (lenL v70) fun t71 =>
                obind (fldP 9 v3) fun t72 =>
                obind (ldCell h_40 t72) fun v73 =>
                obind (lenL v73) fun t74 =>
                lett ((t71 : Int) != t74) fun (t75 : Bool) =>
                j76 t75 h_40)) fun j67 =>
            ifB t60
            (
              j67 true h_37)
            (
              obind (fldP 12 v2) fun t62 =>
              obind (ldCell h_37 t62) fun v63 =>
              obind (avStr v63) fun t63 =>
              obind (fldP 12 v3) fun t64 =>
              obind (ldCell h_37 t64) fun v65 =>
              obind (avStr v65) fun t65 =>
              lett (!eqS t63 t65) fun (t66 : Bool) =>
              j67 t66 h_37)) fun j60 =>
          ifB t53
          (
            j60 true h_34)
          (
            obind (fldP 21 v2) fun t55 =>
            obind (ldCell h_34 t55) fun v56 =>
            obind (avInt .i64 v56) fun t56 =>
            obind (fldP 21 v3) fun t57 =>
            obind (ldCell h_34 t57) fun v58 =>
            obind (avInt .i64 v58) fun t58 =>
            lett ((t56 : Int) != t58) fun (t59 : Bool) =>
            j60 t59 h_34)) fun j53 =>
        ifB t46
        (
          j53 true h_31)
        (
          obind (fldP 20 v2) fun t48 =>
          obind (ldCell h_31 t48) fun v49 =>
          obind (avInt .i64 v49) fun t49 =>
          obind (fldP 20 v3) fun t50 =>
          obind (ldCell h_31 t50) fun v51 =>
          obind (avInt .i64 v51) fun t51 =>
          lett ((t49 : Int) != t51) fun (t52 : Bool) =>
          j53 t52 h_31)) fun j46 =>
      ifB t39
      (
        j46 true h_28)
      (
        obind (fldP 19 v2) fun t41 =>
        obind (ldCell h_28 t41) fun v42 =>
        obind (avInt .u8 v42) fun t42 =>
        obind (fldP 19 v3) fun t43 =>
        obind (ldCell h_28 t43) fun v44 =>
        obind (avInt .u8 v44) fun t44 =>
        lett ((t42 : Int) != t44) fun (t45 : Bool) =>
        j46 t45 h_28)) fun j39 =>
    ifB t32
    (
      j39 true h_18)
    (
      obind (fldP 8 v2) fun t34 =>
      obind (ldCell h_18 t34) fun v35 =>
      obind (avBool v35) fun t35 =>
      obind (fldP 8 v3) fun t36 =>
      obind (ldCell h_18 t36) fun v37 =>
      obind (avBool v37) fun t37 =>
      lett (!((t35 : Bool) == t37)) fun (t38 : Bool) =>
      j39 t38 h_18)) fun k17 =>
  ref17_Same_L1 r10 r12 k17 n 0 h_12
set_option maxHeartbeats 4000000 in
set_option maxRecDepth 20000 in
theorem ref17_Same_ok {call : CallF} (hc : SaysAll Try.prog call) {n : Nat} {t0 : List AV} {t1 : List AV} {h : AHeap} {rR : ARes} {hR : AHeap} (hF : ref17_Same call n t0 t1 h = some (rR, hR)) : Says Try.prog 17 [.agg t0, .agg t1] h rR hR := by
  unfold ref17_Same at hF
  refine says_of (fn := Try.f17) Try.func17 (c := codeOf Try.f17) (by kernel_rfl) (by kernel_rfl) (fun w0 m0 => ?_)
  refine W.weaken (l' := [(0, .agg t0), (1, .agg t1)]) (Fr.c (Fr.c Fr.n)) ?_
  refine W.s (fun K1 n1 e1 q1 p1 => ?_)
  refine W.r ?_
  replace hF := outK_some hF; obtain ⟨v2, h_2, e3, hF⟩ := hF
  refine WL.b (some 2) v2 h_2 e3 ?_
  replace hF := outK_some hF; obtain ⟨v3, h_4, e5, hF⟩ := hF
  refine WL.b (some 3) v3 h_4 e5 ?_
  refine WL.a (some 4) (.bool false) h_4 ?_
  refine WL.n ?_
  refine Go.weaken (l' := [(2, v2), (3, v3)]) (Fr.c (Fr.c Fr.n)) ?_
  refine n1 ?_
  refine W.s (fun K6 n6 e6 q6 p6 => ?_)
  refine W.draw (by kernel_rfl) (hc.ok w0) (plan := [0, 2, 1, 3, 4, 5]) (by kernel_rfl) (by kernel_rfl) (by kernel_rfl) ?_
  replace hF := obind_some hF; obtain ⟨t9, e7, hF⟩ := hF
  refine WD.b 1 (some 9) (.agg t9) h_4 (load_row (P := Try.prog) (h := h_4) (t := 30) (by kernel_rfl) (by kernel_rfl) e7) ?_
  replace hF := obind_some hF; obtain ⟨t11, e8, hF⟩ := hF
  refine WD.b 1 (some 11) (.agg t11) h_4 (load_row (P := Try.prog) (h := h_4) (t := 30) (by kernel_rfl) (by kernel_rfl) e8) ?_
  replace hF := callN_some hF; obtain ⟨r10, h_9, e10, hF⟩ := hF
  replace hF := chk_some hF; obtain ⟨k11, hF⟩ := hF
  refine WD.call (d := (some 10)) (by kernel_rfl) (by kernel_rfl) (by kernel_rfl) e10 (k := 2) (by kernel_rfl) (fun _ => (Eq.trans (by kernel_rfl) k11)) (by decide) ?_
  replace hF := callN_some hF; obtain ⟨r12, h_12, e13, hF⟩ := hF
  refine WD.call (d := (some 12)) (by kernel_rfl) (by kernel_rfl) (by kernel_rfl) e13 (k := 2) (by kernel_rfl) (fun _ => (by kernel_rfl)) (by decide) ?_
  refine WD.a 0 (some 5) r10 h_12 ?_
  refine WD.a 0 (some 6) r12 h_12 ?_
  refine WD.nil ?_
  refine Go.weaken (l' := [(2, v2), (3, v3), (5, r10), (6, r12)]) (Fr.c (Fr.c (Fr.c (Fr.c Fr.n)))) ?_
  refine n6 ?_
  refine W.s (fun K14 n14 e14 q14 p14 => ?_)
  refine W.s (fun K15 n15 e15 q15 p15 => ?_)
  refine W.r ?_
  refine WL.a (some 7) (.int .i64 0) h_12 ?_
  refine WL.n ?_
  refine Go.weaken (l' := [(2, v2), (3, v3), (5, r10), (6, r12), (7, .int .i64 0)]) (Fr.c (Fr.c (Fr.c (Fr.c (Fr.c Fr.n))))) ?_
  refine n15 ?_
  replace hF := lett_some hF; obtain ⟨k17, e17, hF⟩ := hF
  have J17 : ∀  (h_18 : AHeap), k17 h_18 = some (rR, hR) → Go w0 m0 (Func.ntmps Try.f17) (K14 .normal) [(2, v2), (3, v3)] [] h_18 := by
    intro  h_18 hF
    rw [e17] at hF
    refine n14 ?_
    refine W.s (fun K19 n19 e19 q19 p19 => ?_)
    refine W.s (fun K20 n20 e20 q20 p20 => ?_)
    refine W.r ?_
    replace hF := obind_some hF; obtain ⟨t28, e21, hF⟩ := hF
    refine WL.b (some 28) t28 h_18 (field_ptr (P := Try.prog) (h := h_18) (s := 30) (f := 0) (by kernel_rfl) e21) ?_
    replace hF := obind_some hF; obtain ⟨v29, e22, hF⟩ := hF
    replace hF := obind_some hF; obtain ⟨t29, c23, hF⟩ := hF
    have c23 := avInt_some c23
    subst c23
    refine WL.b (some 29) (.int .u8 t29) h_18 (load_cell (P := Try.prog) (h := h_18) (t := 5) (by kernel_rfl) e22) ?_
    replace hF := obind_some hF; obtain ⟨t30, e24, hF⟩ := hF
    refine WL.b (some 30) t30 h_18 (field_ptr (P := Try.prog) (h := h_18) (s := 30) (f := 0) (by kernel_rfl) e24) ?_
    replace hF := obind_some hF; obtain ⟨v31, e25, hF⟩ := hF
    replace hF := obind_some hF; obtain ⟨t31, c26, hF⟩ := hF
    have c26 := avInt_some c26
    subst c26
    refine WL.b (some 31) (.int .u8 t31) h_18 (load_cell (P := Try.prog) (h := h_18) (t := 5) (by kernel_rfl) e25) ?_
    replace hF := lett_some hF; obtain ⟨t32, e27, hF⟩ := hF
    refine WL.val (d := (some 32)) (v := .bool t32) (h' := h_18) (by kernel_rfl) (by kernel_rfl) (val_of AV.bool e27 (by kernel_rfl)) ?_
    refine WL.a (some 33) (.bool t32) h_18 ?_
    replace hF := lett_some hF; obtain ⟨j39, e29, hF⟩ := hF
    have J30 : ∀ (t39 : Bool) (h_28 : AHeap), j39 t39 h_28 = some (rR, hR) → WL Try.prog w0 m0 (Func.ntmps Try.f17) (Code.ops (Code.p1 (Code.p1 (Code.p2 (Code.p2 (Code.p2 (codeOf Try.f17))))))) 12 K20 [(2, v2), (3, v3), (39, .bool t39)] [] h_28 := by
      intro t39 h_28 hF
      rw [e29] at hF
      refine WL.a (some 40) (.bool t39) h_28 ?_
      replace hF := lett_some hF; obtain ⟨j46, e32, hF⟩ := hF
      have J33 : ∀ (t46 : Bool) (h_31 : AHeap), j46 t46 h_31 = some (rR, hR) → WL Try.prog w0 m0 (Func.ntmps Try.f17) (Code.ops (Code.p1 (Code.p1 (Code.p2 (Code.p2 (Code.p2 (codeOf Try.f17))))))) 19 K20 [(2, v2), (3, v3), (46, .bool t46)] [] h_31 := by
        intro t46 h_31 hF
        rw [e32] at hF
        refine WL.a (some 47) (.bool t46) h_31 ?_
        replace hF := lett_some hF; obtain ⟨j53, e35, hF⟩ := hF
        have J36 : ∀ (t53 : Bool) (h_34 : AHeap), j53 t53 h_34 = some (rR, hR) → WL Try.prog w0 m0 (Func.ntmps Try.f17) (Code.ops (Code.p1 (Code.p1 (Code.p2 (Code.p2 (Code.p2 (codeOf Try.f17))))))) 26 K20 [(2, v2), (3, v3), (53, .bool t53)] [] h_34 := by
          intro t53 h_34 hF
          rw [e35] at hF
          refine WL.a (some 54) (.bool t53) h_34 ?_
          replace hF := lett_some hF; obtain ⟨j60, e38, hF⟩ := hF
          have J39 : ∀ (t60 : Bool) (h_37 : AHeap), j60 t60 h_37 = some (rR, hR) → WL Try.prog w0 m0 (Func.ntmps Try.f17) (Code.ops (Code.p1 (Code.p1 (Code.p2 (Code.p2 (Code.p2 (codeOf Try.f17))))))) 33 K20 [(2, v2), (3, v3), (60, .bool t60)] [] h_37 := by
            intro t60 h_37 hF
            rw [e38] at hF
            refine WL.a (some 61) (.bool t60) h_37 ?_
            replace hF := lett_some hF; obtain ⟨j67, e41, hF⟩ := hF
            have J42 : ∀ (t67 : Bool) (h_40 : AHeap), j67 t67 h_40 = some (rR, hR) → WL Try.prog w0 m0 (Func.ntmps Try.f17) (Code.ops (Code.p1 (Code.p1 (Code.p2 (Code.p2 (Code.p2 (codeOf Try.f17))))))) 40 K20 [(2, v2), (3, v3), (67, .bool t67)] [] h_40 := by
              intro t67 h_40 hF
              rw [e41] at hF
              refine WL.a (some 68) (.bool t67) h_40 ?_
              replace hF := lett_some hF; obtain ⟨j76, e44, hF⟩ := hF
              have J45 : ∀ (t76 : Bool) (h_43 : AHeap), j76 t76 h_43 = some (rR, hR) → WL Try.prog w0 m0 (Func.ntmps Try.f17) (Code.ops (Code.p1 (Code.p1 (Code.p2 (Code.p2 (Code.p2 (codeOf Try.f17))))))) 49 K20 [(2, v2), (3, v3), (76, .bool t76)] [] h_43 := by
                intro t76 h_43 hF
                rw [e44] at hF
                refine WL.n ?_
                refine Go.weaken (l' := [(2, v2), (3, v3), (76, .bool t76)]) (Fr.c (Fr.c (Fr.c Fr.n))) ?_
                refine n20 ?_
                cases t76 with
                | true =>
                  replace hF := ifB_t hF
                  refine W.t ?_
                  refine W.s (fun K46 n46 e46 q46 p46 => ?_)
                  refine W.r ?_
                  refine WL.a (some 4) (.bool false) h_43 ?_
                  refine WL.n ?_
                  refine Go.weaken (l' := [(4, .bool false)]) (Fr.c Fr.n) ?_
                  refine n46 ?_
                  refine W.ret (by kernel_rfl) ?_
                  refine q19 ?_
                  obtain ⟨hF, hF2⟩ := ret_inj hF; subst hF; subst hF2
                  exact leave_of (rs := [.tmp 4]) (vs := [.bool false]) (by kernel_rfl) (res_tmp (by kernel_rfl) res_nil) (by kernel_rfl)
                | false =>
                  replace hF := ifB_f hF
                  refine W.f ?_
                  refine W.skip (by kernel_rfl) ?_
                  refine n19 ?_
                  refine W.s (fun K47 n47 e47 q47 p47 => ?_)
                  refine W.s (fun K48 n48 e48 q48 p48 => ?_)
                  refine W.r ?_
                  refine WL.a (some 8) (.int .i64 0) h_43 ?_
                  refine WL.n ?_
                  refine Go.weaken (l' := [(2, v2), (3, v3), (8, .int .i64 0)]) (Fr.c (Fr.c (Fr.c Fr.n))) ?_
                  refine n48 ?_
                  replace hF := lett_some hF; obtain ⟨k50, e50, hF⟩ := hF
                  have J50 : ∀  (h_51 : AHeap), k50 h_51 = some (rR, hR) → Go w0 m0 (Func.ntmps Try.f17) (K47 .normal) [] [] h_51 := by
                    intro  h_51 hF
                    rw [e50] at hF
                    refine n47 ?_
                    refine W.s (fun K52 n52 e52 q52 p52 => ?_)
                    refine W.r ?_
                    refine WL.a (some 4) (.bool true) h_51 ?_
                    refine WL.n ?_
                    refine Go.weaken (l' := [(4, .bool true)]) (Fr.c Fr.n) ?_
                    refine n52 ?_
                    refine W.ret (by kernel_rfl) ?_
                    obtain ⟨hF, hF2⟩ := ret_inj hF; subst hF; subst hF2
                    exact leave_of (rs := [.tmp 4]) (vs := [.bool true]) (by kernel_rfl) (res_tmp (by kernel_rfl) res_nil) (by kernel_rfl)
                  refine W.blockK (by kernel_rfl) (fun K49 n49 s49 o49 q49 p49 => ?_)
                  refine W.loopK (by kernel_rfl) (fun I53 K53 b53 n53 e53 q53 p53 => ?_)
                  have L53 : ∀ (m : Nat) (t8 : Int) (h_54 : AHeap), ref17_Same_L0 v2 v3 k50 m t8 h_54 = some (rR, hR) → Go w0 m0 (Func.ntmps Try.f17) I53 [(2, v2), (3, v3), (8, .int .i64 t8)] [] h_54 := by
                    intro m
                    induction m with
                    | zero => intro t8 h_54 hF; cases hF
                    | succ m ih53 =>
                      intro t8 h_54 hF
                      rw [ref17_Same_L0_s] at hF; unfold ref17_Same_L0b at hF
                      refine b53 ?_
                      refine W.s (fun K55 n55 e55 q55 p55 => ?_)
                      refine W.s (fun K56 n56 e56 q56 p56 => ?_)
                      refine W.r ?_
                      refine WL.a (some 77) (.int .i64 t8) h_54 ?_
                      replace hF := obind_some hF; obtain ⟨t78, e57, hF⟩ := hF
                      refine WL.b (some 78) t78 h_54 (field_ptr (P := Try.prog) (h := h_54) (s := 30) (f := 9) (by kernel_rfl) e57) ?_
                      replace hF := obind_some hF; obtain ⟨v79, e58, hF⟩ := hF
                      refine WL.b (some 79) v79 h_54 (load_cell (P := Try.prog) (h := h_54) (t := 26) (by kernel_rfl) e58) ?_
                      replace hF := obind_some hF; obtain ⟨t80, e59, hF⟩ := hF
                      refine WL.b (some 80) (.int .i64 t80) h_54 (len_row (P := Try.prog) (h := h_54) (t := 26) (e' := 42) (by kernel_rfl) e59) ?_
                      replace hF := lett_some hF; obtain ⟨t81, e60, hF⟩ := hF
                      refine WL.val (d := (some 81)) (v := .bool t81) (h' := h_54) (by kernel_rfl) (by kernel_rfl) (val_of AV.bool e60 (by kernel_rfl)) ?_
                      refine WL.n ?_
                      refine Go.weaken (l' := [(2, v2), (3, v3), (8, .int .i64 t8), (81, .bool t81)]) (Fr.c (Fr.c (Fr.c (Fr.c Fr.n)))) ?_
                      refine n56 ?_
                      cases t81 with
                      | true =>
                        replace hF := ifB_t hF
                        refine W.t ?_
                        refine W.skip (by kernel_rfl) ?_
                        refine n55 ?_
                        refine W.s (fun K61 n61 e61 q61 p61 => ?_)
                        refine W.blockK (by kernel_rfl) (fun K62 n62 s62 o62 q62 p62 => ?_)
                        refine W.s (fun K63 n63 e63 q63 p63 => ?_)
                        refine W.draw (by kernel_rfl) (hc.ok w0) (plan := [0, 1, 2, 3, 4, 5, 6, 7, 8, 9, 10]) (by kernel_rfl) (by kernel_rfl) (by kernel_rfl) ?_
                        replace hF := obind_some hF; obtain ⟨t84, e64, hF⟩ := hF
                        refine WD.b 0 (some 84) t84 h_54 (field_ptr (P := Try.prog) (h := h_54) (s := 30) (f := 9) (by kernel_rfl) e64) ?_
                        replace hF := obind_some hF; obtain ⟨v85, e65, hF⟩ := hF
                        refine WD.b 1 (some 85) v85 h_54 (load_cell (P := Try.prog) (h := h_54) (t := 26) (by kernel_rfl) e65) ?_
                        refine WD.a 0 (some 86) (.int .i64 t8) h_54 ?_
                        replace hF := obind_some hF; obtain ⟨t87, e66, hF⟩ := hF
                        refine WD.b 0 (some 87) t87 h_54 (index_row (P := Try.prog) (h := h_54) (t := 26) (e' := 42) (k := .i64) (by kernel_rfl) (by kernel_rfl) (by kernel_rfl) e66) ?_
                        replace hF := obind_some hF; obtain ⟨t88, e67, hF⟩ := hF
                        refine WD.b 1 (some 88) (.agg t88) h_54 (load_row (P := Try.prog) (h := h_54) (t := 42) (by kernel_rfl) (by kernel_rfl) e67) ?_
                        replace hF := obind_some hF; obtain ⟨t89, e68, hF⟩ := hF
                        refine WD.b 0 (some 89) t89 h_54 (field_ptr (P := Try.prog) (h := h_54) (s := 30) (f := 9) (by kernel_rfl) e68) ?_
                        replace hF := obind_some hF; obtain ⟨v90, e69, hF⟩ := hF
                        refine WD.b 1 (some 90) v90 h_54 (load_cell (P := Try.prog) (h := h_54) (t := 26) (by kernel_rfl) e69) ?_
                        refine WD.a 0 (some 91) (.int .i64 t8) h_54 ?_
                        replace hF := obind_some hF; obtain ⟨t92, e70, hF⟩ := hF
                        refine WD.b 0 (some 92) t92 h_54 (index_row (P := Try.prog) (h := h_54) (t := 26) (e' := 42) (k := .i64) (by kernel_rfl) (by kernel_rfl) (by kernel_rfl) e70) ?_
                        replace hF := obind_some hF; obtain ⟨t93, e71, hF⟩ := hF
                        refine WD.b 1 (some 93) (.agg t93) h_54 (load_row (P := Try.prog) (h := h_54) (t := 42) (by kernel_rfl) (by kernel_rfl) e71) ?_
                        replace hF := obind_some hF; obtain ⟨t94, e72, hF⟩ := hF
                        replace hF := lett_some hF; obtain ⟨t94_73, e74, hF⟩ := hF
                        refine WD.val (d := (some 94)) (v := .bool t94_73) (h' := h_54) (by kernel_rfl) (by kernel_rfl) (val_of AV.bool e74 (Eq.trans (by kernel_rfl) (neq_other (P := Try.prog) (h := h_54) (t := 42) (lit := false) (by kernel_rfl) e72))) (k := 0) (by kernel_rfl) (fun e => absurd e (by decide)) (by decide) ?_
                        refine WD.nil ?_
                        refine Go.weaken (l' := [(2, v2), (3, v3), (8, .int .i64 t8), (94, .bool t94_73)]) (Fr.c (Fr.c (Fr.c (Fr.c Fr.n)))) ?_
                        refine n63 ?_
                        cases t94_73 with
                        | true =>
                          replace hF := ifB_t hF
                          refine W.t ?_
                          refine W.s (fun K75 n75 e75 q75 p75 => ?_)
                          refine W.r ?_
                          refine WL.a (some 4) (.bool false) h_54 ?_
                          refine WL.n ?_
                          refine Go.weaken (l' := [(4, .bool false)]) (Fr.c Fr.n) ?_
                          refine n75 ?_
                          refine W.ret (by kernel_rfl) ?_
                          refine q62 ?_
                          refine q61 ?_
                          refine q53 ?_
                          refine q49 ?_
                          refine q47 ?_
                          obtain ⟨hF, hF2⟩ := ret_inj hF; subst hF; subst hF2
                          exact leave_of (rs := [.tmp 4]) (vs := [.bool false]) (by kernel_rfl) (res_tmp (by kernel_rfl) res_nil) (by kernel_rfl)
                        | false =>
                          replace hF := ifB_f hF
                          refine W.f ?_
                          refine W.skip (by kernel_rfl) ?_
                          refine n62 ?_
                          refine n61 ?_
                          refine W.r ?_
                          refine WL.a (some 82) (.int .i64 t8) h_54 ?_
                          replace hF := lett_some hF; obtain ⟨t83, e76, hF⟩ := hF
                          refine WL.val (d := (some 83)) (v := .int .i64 t83) (h' := h_54) (by kernel_rfl) (by kernel_rfl) (val_of (AV.int .i64) e76 (by kernel_rfl)) ?_
                          refine WL.a (some 8) (.int .i64 t83) h_54 ?_
                          refine WL.n ?_
                          refine Go.weaken (l' := [(2, v2), (3, v3), (8, .int .i64 t83)]) (Fr.c (Fr.c (Fr.c Fr.n))) ?_
                          refine n53 ?_
                          exact Go.weaken (Fr.c (Fr.c (Fr.c Fr.n))) (ih53 _ _ hF)
                      | false =>
                        replace hF := ifB_f hF
                        refine W.f ?_
                        refine W.exit (by kernel_rfl) ?_
                        refine e55 ?_
                        refine e53 ?_
                        refine s49 (by kernel_rfl) ?_
                        exact Go.weaken Fr.n (J50 _ hF)
                  exact Go.weaken (Fr.c (Fr.c (Fr.c Fr.n))) (L53 _ _ _ hF)
              cases t67 with
              | true =>
                replace hF := ifB_t hF
                refine WL.o (some 69) ?_
                refine WL.o (some 70) ?_
                refine WL.o (some 71) ?_
                refine WL.o (some 72) ?_
                refine WL.o (some 73) ?_
                refine WL.o (some 74) ?_
                refine WL.o (some 75) ?_
                refine WL.a (some 76) (.bool true) h_40 ?_
                exact WL.weaken (Fr.c (Fr.c (Fr.c Fr.n))) (J45 _ _ hF)
              | false =>
                replace hF := ifB_f hF
                replace hF := obind_some hF; obtain ⟨t69, e77, hF⟩ := hF
                refine WL.b (some 69) t69 h_40 (field_ptr (P := Try.prog) (h := h_40) (s := 30) (f := 9) (by kernel_rfl) e77) ?_
                replace hF := obind_some hF; obtain ⟨v70, e78, hF⟩ := hF
                refine WL.b (some 70) v70 h_40 (load_cell (P := Try.prog) (h := h_40) (t := 26) (by kernel_rfl) e78) ?_
                replace hF := obind_some hF; obtain ⟨t71, e79, hF⟩ := hF
                refine WL.b (some 71) (.int .i64 t71) h_40 (len_row (P := Try.prog) (h := h_40) (t := 26) (e' := 42) (by kernel_rfl) e79) ?_
                replace hF := obind_some hF; obtain ⟨t72, e80, hF⟩ := hF
                refine WL.b (some 72) t72 h_40 (field_ptr (P := Try.prog) (h := h_40) (s := 30) (f := 9) (by kernel_rfl) e80) ?_
                replace hF := obind_some hF; obtain ⟨v73, e81, hF⟩ := hF
                refine WL.b (some 73) v73 h_40 (load_cell (P := Try.prog) (h := h_40) (t := 26) (by kernel_rfl) e81) ?_
                replace hF := obind_some hF; obtain ⟨t74, e82, hF⟩ := hF
                refine WL.b (some 74) (.int .i64 t74) h_40 (len_row (P := Try.prog) (h := h_40) (t := 26) (e' := 42) (by kernel_rfl) e82) ?_
                replace hF := lett_some hF; obtain ⟨t75, e83, hF⟩ := hF
                refine WL.val (d := (some 75)) (v := .bool t75) (h' := h_40) (by kernel_rfl) (by kernel_rfl) (val_of AV.bool e83 (by kernel_rfl)) ?_
                refine WL.a (some 76) (.bool t75) h_40 ?_
                exact WL.weaken (Fr.c (Fr.c (Fr.c Fr.n))) (J45 _ _ hF)
            cases t60 with
            | true =>
              replace hF := ifB_t hF
              refine WL.o (some 62) ?_
              refine WL.o (some 63) ?_
              refine WL.o (some 64) ?_
              refine WL.o (some 65) ?_
              refine WL.o (some 66) ?_
              refine WL.a (some 67) (.bool true) h_37 ?_
              exact WL.weaken (Fr.c (Fr.c (Fr.c Fr.n))) (J42 _ _ hF)
            | false =>
              replace hF := ifB_f hF
              replace hF := obind_some hF; obtain ⟨t62, e84, hF⟩ := hF
              refine WL.b (some 62) t62 h_37 (field_ptr (P := Try.prog) (h := h_37) (s := 30) (f := 12) (by kernel_rfl) e84) ?_
              replace hF := obind_some hF; obtain ⟨v63, e85, hF⟩ := hF
              replace hF := obind_some hF; obtain ⟨t63, c86, hF⟩ := hF
              have c86 := avStr_some c86
              subst c86
              refine WL.b (some 63) (strA t63) h_37 (load_cell (P := Try.prog) (h := h_37) (t := 9) (by kernel_rfl) e85) ?_
              replace hF := obind_some hF; obtain ⟨t64, e87, hF⟩ := hF
              refine WL.b (some 64) t64 h_37 (field_ptr (P := Try.prog) (h := h_37) (s := 30) (f := 12) (by kernel_rfl) e87) ?_
              replace hF := obind_some hF; obtain ⟨v65, e88, hF⟩ := hF
              replace hF := obind_some hF; obtain ⟨t65, c89, hF⟩ := hF
              have c89 := avStr_some c89
              subst c89
              refine WL.b (some 65) (strA t65) h_37 (load_cell (P := Try.prog) (h := h_37) (t := 9) (by kernel_rfl) e88) ?_
              replace hF := lett_some hF; obtain ⟨t66, e90, hF⟩ := hF
              refine WL.val (d := (some 66)) (v := .bool t66) (h' := h_37) (by kernel_rfl) (by kernel_rfl) (val_of AV.bool e90 (by kernel_rfl)) ?_
              refine WL.a (some 67) (.bool t66) h_37 ?_
              exact WL.weaken (Fr.c (Fr.c (Fr.c Fr.n))) (J42 _ _ hF)
          cases t53 with
          | true =>
            replace hF := ifB_t hF
            refine WL.o (some 55) ?_
            refine WL.o (some 56) ?_
            refine WL.o (some 57) ?_
            refine WL.o (some 58) ?_
            refine WL.o (some 59) ?_
            refine WL.a (some 60) (.bool true) h_34 ?_
            exact WL.weaken (Fr.c (Fr.c (Fr.c Fr.n))) (J39 _ _ hF)
          | false =>
            replace hF := ifB_f hF
            replace hF := obind_some hF; obtain ⟨t55, e91, hF⟩ := hF
            refine WL.b (some 55) t55 h_34 (field_ptr (P := Try.prog) (h := h_34) (s := 30) (f := 20) (by kernel_rfl) e91) ?_
            replace hF := obind_some hF; obtain ⟨v56, e92, hF⟩ := hF
            replace hF := obind_some hF; obtain ⟨t56, c93, hF⟩ := hF
            have c93 := avInt_some c93
            subst c93
            refine WL.b (some 56) (.int .i64 t56) h_34 (load_cell (P := Try.prog) (h := h_34) (t := 3) (by kernel_rfl) e92) ?_
            replace hF := obind_some hF; obtain ⟨t57, e94, hF⟩ := hF
            refine WL.b (some 57) t57 h_34 (field_ptr (P := Try.prog) (h := h_34) (s := 30) (f := 20) (by kernel_rfl) e94) ?_
            replace hF := obind_some hF; obtain ⟨v58, e95, hF⟩ := hF
            replace hF := obind_some hF; obtain ⟨t58, c96, hF⟩ := hF
            have c96 := avInt_some c96
            subst c96
            refine WL.b (some 58) (.int .i64 t58) h_34 (load_cell (P := Try.prog) (h := h_34) (t := 3) (by kernel_rfl) e95) ?_
            replace hF := lett_some hF; obtain ⟨t59, e97, hF⟩ := hF
            refine WL.val (d := (some 59)) (v := .bool t59) (h' := h_34) (by kernel_rfl) (by kernel_rfl) (val_of AV.bool e97 (by kernel_rfl)) ?_
            refine WL.a (some 60) (.bool t59) h_34 ?_
            exact WL.weaken (Fr.c (Fr.c (Fr.c Fr.n))) (J39 _ _ hF)
        cases t46 with
        | true =>
          replace hF := ifB_t hF
          refine WL.o (some 48) ?_
          refine WL.o (some 49) ?_
          refine WL.o (some 50) ?_
          refine WL.o (some 51) ?_
          refine WL.o (some 52) ?_
          refine WL.a (some 53) (.bool true) h_31 ?_
          exact WL.weaken (Fr.c (Fr.c (Fr.c Fr.n))) (J36 _ _ hF)
        | false =>
          replace hF := ifB_f hF
          replace hF := obind_some hF; obtain ⟨t48, e98, hF⟩ := hF
          refine WL.b (some 48) t48 h_31 (field_ptr (P := Try.prog) (h := h_31) (s := 30) (f := 19) (by kernel_rfl) e98) ?_
          replace hF := obind_some hF; obtain ⟨v49, e99, hF⟩ := hF
          replace hF := obind_some hF; obtain ⟨t49, c100, hF⟩ := hF
          have c100 := avInt_some c100
          subst c100
          refine WL.b (some 49) (.int .i64 t49) h_31 (load_cell (P := Try.prog) (h := h_31) (t := 23) (by kernel_rfl) e99) ?_
          replace hF := obind_some hF; obtain ⟨t50, e101, hF⟩ := hF
          refine WL.b (some 50) t50 h_31 (field_ptr (P := Try.prog) (h := h_31) (s := 30) (f := 19) (by kernel_rfl) e101) ?_
          replace hF := obind_some hF; obtain ⟨v51, e102, hF⟩ := hF
          replace hF := obind_some hF; obtain ⟨t51, c103, hF⟩ := hF
          have c103 := avInt_some c103
          subst c103
          refine WL.b (some 51) (.int .i64 t51) h_31 (load_cell (P := Try.prog) (h := h_31) (t := 23) (by kernel_rfl) e102) ?_
          replace hF := lett_some hF; obtain ⟨t52, e104, hF⟩ := hF
          refine WL.val (d := (some 52)) (v := .bool t52) (h' := h_31) (by kernel_rfl) (by kernel_rfl) (val_of AV.bool e104 (by kernel_rfl)) ?_
          refine WL.a (some 53) (.bool t52) h_31 ?_
          exact WL.weaken (Fr.c (Fr.c (Fr.c Fr.n))) (J36 _ _ hF)
      cases t39 with
      | true =>
        replace hF := ifB_t hF
        refine WL.o (some 41) ?_
        refine WL.o (some 42) ?_
        refine WL.o (some 43) ?_
        refine WL.o (some 44) ?_
        refine WL.o (some 45) ?_
        refine WL.a (some 46) (.bool true) h_28 ?_
        exact WL.weaken (Fr.c (Fr.c (Fr.c Fr.n))) (J33 _ _ hF)
      | false =>
        replace hF := ifB_f hF
        replace hF := obind_some hF; obtain ⟨t41, e105, hF⟩ := hF
        refine WL.b (some 41) t41 h_28 (field_ptr (P := Try.prog) (h := h_28) (s := 30) (f := 18) (by kernel_rfl) e105) ?_
        replace hF := obind_some hF; obtain ⟨v42, e106, hF⟩ := hF
        replace hF := obind_some hF; obtain ⟨t42, c107, hF⟩ := hF
        have c107 := avInt_some c107
        subst c107
        refine WL.b (some 42) (.int .u8 t42) h_28 (load_cell (P := Try.prog) (h := h_28) (t := 5) (by kernel_rfl) e106) ?_
        replace hF := obind_some hF; obtain ⟨t43, e108, hF⟩ := hF
        refine WL.b (some 43) t43 h_28 (field_ptr (P := Try.prog) (h := h_28) (s := 30) (f := 18) (by kernel_rfl) e108) ?_
        replace hF := obind_some hF; obtain ⟨v44, e109, hF⟩ := hF
        replace hF := obind_some hF; obtain ⟨t44, c110, hF⟩ := hF
        have c110 := avInt_some c110
        subst c110
        refine WL.b (some 44) (.int .u8 t44) h_28 (load_cell (P := Try.prog) (h := h_28) (t := 5) (by kernel_rfl) e109) ?_
        replace hF := lett_some hF; obtain ⟨t45, e111, hF⟩ := hF
        refine WL.val (d := (some 45)) (v := .bool t45) (h' := h_28) (by kernel_rfl) (by kernel_rfl) (val_of AV.bool e111 (by kernel_rfl)) ?_
        refine WL.a (some 46) (.bool t45) h_28 ?_
        exact WL.weaken (Fr.c (Fr.c (Fr.c Fr.n))) (J33 _ _ hF)
    cases t32 with
    | true =>
      replace hF := ifB_t hF
      refine WL.o (some 34) ?_
      refine WL.o (some 35) ?_
      refine WL.o (some 36) ?_
      refine WL.o (some 37) ?_
      refine WL.o (some 38) ?_
      refine WL.a (some 39) (.bool true) h_18 ?_
      exact WL.weaken (Fr.c (Fr.c (Fr.c Fr.n))) (J30 _ _ hF)
    | false =>
      replace hF := ifB_f hF
      replace hF := obind_some hF; obtain ⟨t34, e112, hF⟩ := hF
      refine WL.b (some 34) t34 h_18 (field_ptr (P := Try.prog) (h := h_18) (s := 30) (f := 8) (by kernel_rfl) e112) ?_
      replace hF := obind_some hF; obtain ⟨v35, e113, hF⟩ := hF
      replace hF := obind_some hF; obtain ⟨t35, c114, hF⟩ := hF
      have c114 := avBool_some c114
      subst c114
      refine WL.b (some 35) (.bool t35) h_18 (load_cell (P := Try.prog) (h := h_18) (t := 4) (by kernel_rfl) e113) ?_
      replace hF := obind_some hF; obtain ⟨t36, e115, hF⟩ := hF
      refine WL.b (some 36) t36 h_18 (field_ptr (P := Try.prog) (h := h_18) (s := 30) (f := 8) (by kernel_rfl) e115) ?_
      replace hF := obind_some hF; obtain ⟨v37, e116, hF⟩ := hF
      replace hF := obind_some hF; obtain ⟨t37, c117, hF⟩ := hF
      have c117 := avBool_some c117
      subst c117
      refine WL.b (some 37) (.bool t37) h_18 (load_cell (P := Try.prog) (h := h_18) (t := 4) (by kernel_rfl) e116) ?_
      replace hF := lett_some hF; obtain ⟨t38, e118, hF⟩ := hF
      refine WL.val (d := (some 38)) (v := .bool t38) (h' := h_18) (by kernel_rfl) (by kernel_rfl) (val_of AV.bool e118 (by kernel_rfl)) ?_
      refine WL.a (some 39) (.bool t38) h_18 ?_
      exact WL.weaken (Fr.c (Fr.c (Fr.c Fr.n))) (J30 _ _ hF)
  refine W.blockK (by kernel_rfl) (fun K16 n16 s16 o16 q16 p16 => ?_)
  refine W.loopK (by kernel_rfl) (fun I119 K119 b119 n119 e119 q119 p119 => ?_)
  have L119 : ∀ (m : Nat) (t7 : Int) (h_120 : AHeap), ref17_Same_L1 r10 r12 k17 m t7 h_120 = some (rR, hR) → Go w0 m0 (Func.ntmps Try.f17) I119 [(2, v2), (3, v3), (5, r10), (6, r12), (7, .int .i64 t7)] [] h_120 := by
    intro m
    induction m with
    | zero => intro t7 h_120 hF; cases hF
    | succ m ih119 =>
      intro t7 h_120 hF
      rw [ref17_Same_L1_s] at hF; unfold ref17_Same_L1b at hF
      refine b119 ?_
      refine W.s (fun K121 n121 e121 q121 p121 => ?_)
      refine W.s (fun K122 n122 e122 q122 p122 => ?_)
      refine W.r ?_
      refine WL.a (some 13) (.int .i64 t7) h_120 ?_
      refine WL.a (some 14) r10 h_120 ?_
      replace hF := obind_some hF; obtain ⟨t15, e123, hF⟩ := hF
      refine WL.b (some 15) (.int .i64 t15) h_120 (len_row (P := Try.prog) (h := h_120) (t := 79) (e' := 3) (by kernel_rfl) e123) ?_
      replace hF := lett_some hF; obtain ⟨t16, e124, hF⟩ := hF
      refine WL.val (d := (some 16)) (v := .bool t16) (h' := h_120) (by kernel_rfl) (by kernel_rfl) (val_of AV.bool e124 (by kernel_rfl)) ?_
      refine WL.n ?_
      refine Go.weaken (l' := [(2, v2), (3, v3), (5, r10), (6, r12), (7, .int .i64 t7), (16, .bool t16)]) (Fr.c (Fr.c (Fr.c (Fr.c (Fr.c (Fr.c Fr.n)))))) ?_
      refine n122 ?_
      cases t16 with
      | true =>
        replace hF := ifB_t hF
        refine W.t ?_
        refine W.skip (by kernel_rfl) ?_
        refine n121 ?_
        refine W.s (fun K125 n125 e125 q125 p125 => ?_)
        refine W.blockK (by kernel_rfl) (fun K126 n126 s126 o126 q126 p126 => ?_)
        refine W.s (fun K127 n127 e127 q127 p127 => ?_)
        refine W.draw (by kernel_rfl) (hc.ok w0) (plan := [0, 1, 2, 3, 4, 5, 6, 7, 8]) (by kernel_rfl) (by kernel_rfl) (by kernel_rfl) ?_
        refine WD.a 0 (some 19) r10 h_120 ?_
        refine WD.a 0 (some 20) (.int .i64 t7) h_120 ?_
        replace hF := obind_some hF; obtain ⟨t21, e128, hF⟩ := hF
        refine WD.b 0 (some 21) t21 h_120 (index_row (P := Try.prog) (h := h_120) (t := 79) (e' := 3) (k := .i64) (by kernel_rfl) (by kernel_rfl) (by kernel_rfl) e128) ?_
        replace hF := obind_some hF; obtain ⟨v22, e129, hF⟩ := hF
        replace hF := obind_some hF; obtain ⟨t22, c130, hF⟩ := hF
        have c130 := avInt_some c130
        subst c130
        refine WD.b 1 (some 22) (.int .i64 t22) h_120 (load_cell (P := Try.prog) (h := h_120) (t := 3) (by kernel_rfl) e129) ?_
        refine WD.a 0 (some 23) r12 h_120 ?_
        refine WD.a 0 (some 24) (.int .i64 t7) h_120 ?_
        replace hF := obind_some hF; obtain ⟨t25, e131, hF⟩ := hF
        refine WD.b 0 (some 25) t25 h_120 (index_row (P := Try.prog) (h := h_120) (t := 79) (e' := 3) (k := .i64) (by kernel_rfl) (by kernel_rfl) (by kernel_rfl) e131) ?_
        replace hF := obind_some hF; obtain ⟨v26, e132, hF⟩ := hF
        replace hF := obind_some hF; obtain ⟨t26, c133, hF⟩ := hF
        have c133 := avInt_some c133
        subst c133
        refine WD.b 1 (some 26) (.int .i64 t26) h_120 (load_cell (P := Try.prog) (h := h_120) (t := 3) (by kernel_rfl) e132) ?_
        replace hF := lett_some hF; obtain ⟨t27, e134, hF⟩ := hF
        refine WD.val (d := (some 27)) (v := .bool t27) (h' := h_120) (by kernel_rfl) (by kernel_rfl) (val_of AV.bool e134 (by kernel_rfl)) (k := 0) (by kernel_rfl) (fun e => absurd e (by decide)) (by decide) ?_
        refine WD.nil ?_
        refine Go.weaken (l' := [(2, v2), (3, v3), (5, r10), (6, r12), (7, .int .i64 t7), (27, .bool t27)]) (Fr.c (Fr.c (Fr.c (Fr.c (Fr.c (Fr.c Fr.n)))))) ?_
        refine n127 ?_
        cases t27 with
        | true =>
          replace hF := ifB_t hF
          refine W.t ?_
          refine W.s (fun K135 n135 e135 q135 p135 => ?_)
          refine W.r ?_
          refine WL.a (some 4) (.bool false) h_120 ?_
          refine WL.n ?_
          refine Go.weaken (l' := [(4, .bool false)]) (Fr.c Fr.n) ?_
          refine n135 ?_
          refine W.ret (by kernel_rfl) ?_
          refine q126 ?_
          refine q125 ?_
          refine q119 ?_
          refine q16 ?_
          refine q14 ?_
          obtain ⟨hF, hF2⟩ := ret_inj hF; subst hF; subst hF2
          exact leave_of (rs := [.tmp 4]) (vs := [.bool false]) (by kernel_rfl) (res_tmp (by kernel_rfl) res_nil) (by kernel_rfl)
        | false =>
          replace hF := ifB_f hF
          refine W.f ?_
          refine W.skip (by kernel_rfl) ?_
          refine n126 ?_
          refine n125 ?_
          refine W.r ?_
          refine WL.a (some 17) (.int .i64 t7) h_120 ?_
          replace hF := lett_some hF; obtain ⟨t18, e136, hF⟩ := hF
          refine WL.val (d := (some 18)) (v := .int .i64 t18) (h' := h_120) (by kernel_rfl) (by kernel_rfl) (val_of (AV.int .i64) e136 (by kernel_rfl)) ?_
          refine WL.a (some 7) (.int .i64 t18) h_120 ?_
          refine WL.n ?_
          refine Go.weaken (l' := [(2, v2), (3, v3), (5, r10), (6, r12), (7, .int .i64 t18)]) (Fr.c (Fr.c (Fr.c (Fr.c (Fr.c Fr.n))))) ?_
          refine n119 ?_
          exact Go.weaken (Fr.c (Fr.c (Fr.c (Fr.c (Fr.c Fr.n))))) (ih119 _ _ hF)
      | false =>
        replace hF := ifB_f hF
        refine W.f ?_
        refine W.exit (by kernel_rfl) ?_
        refine e121 ?_
        refine e119 ?_
        refine s16 (by kernel_rfl) ?_
        exact Go.weaken (Fr.c (Fr.c Fr.n)) (J17 _ hF)
  exact Go.weaken (Fr.c (Fr.c (Fr.c (Fr.c (Fr.c Fr.n))))) (L119 _ _ _ hF)
noncomputable def ref17_Same_fn (call : CallF) (n : Nat) : FnT := fun args h => match args with
  | [x0, x1] => obind (avAgg x0) fun t0 => obind (avAgg x1) fun t1 => ref17_Same call n t0 t1 h
  | _ => none
set_option maxRecDepth 100000 in
theorem ref17_Same_fn_eq (call : CallF) (n : Nat) (t0 : List AV) (t1 : List AV) (h : AHeap) : ref17_Same_fn call n [.agg t0, .agg t1] h = ref17_Same call n t0 t1 h :=
  (Eq.trans (obind_eq (fun t0 => obind (avAgg (.agg t1)) fun t1 => ref17_Same call n t0 t1 h) (avAgg_agg t0)) (Eq.trans (obind_eq (fun t1 => ref17_Same call n t0 t1 h) (avAgg_agg t1)) rfl))
theorem ref17_Same_holds {call : CallF} (hc : SaysAll Try.prog call) (n : Nat) : Holds Try.prog 17 (ref17_Same_fn call n) := by
  intro args h r h2 e
  unfold ref17_Same_fn at e
  split at e
  · replace e := obind_some e; obtain ⟨t0, c0, e⟩ := e; have c0 := avAgg_some c0; subst c0
    replace e := obind_some e; obtain ⟨t1, c1, e⟩ := e; have c1 := avAgg_some c1; subst c1
    exact ref17_Same_ok hc e
  · cases e

noncomputable def law17_heavy_L0b (v10 : AV) (t11 : Int) (k14 : AHeap → R) (self : Int → Int → AHeap → R) (t3 : Int) (t12 : Int) (h_29 : AHeap) : R :=
  lett (decide (t12 < t11)) fun (t13 : Bool) =>
  ifB t13
  (
    obind (idxP 2 v10 t12) fun t14 =>
    obind (ldRow h_29 2 t14) fun t15 =>
    lett (newH h_29 42 [.int .i64 0, .str 0 0]) fun h_38 =>
    obind (stRow h_38 2 t15 (newP h_29)) fun h_40 =>
    obind (ldCell h_40 (AV.ptr (AHeap.next h_29) 1)) fun v17 =>
    obind (avStr v17) fun t17 =>
    lett (decide ((lenS t17) > 16384)) fun (t19 : Bool) =>
    ifB t19
    (
      some (.ret (.bool true), h_40))
    (
      obind (ldCell h_40 (AV.ptr (AHeap.next h_29) 1)) fun v22 =>
      obind (avStr v22) fun t22 =>
      lett (IntKind.i64.wrap (t3 + (lenS t22))) fun (t24 : Int) =>
      lett (decide (t24 > 65536)) fun (t26 : Bool) =>
      ifB t26
      (
        some (.ret (.bool true), h_40))
      (
        lett (IntKind.i64.wrap (t12 + 1)) fun (t27 : Int) =>
        self t24 t27 h_40)))
  (
    k14 h_29)
noncomputable def law17_heavy_L0 (v10 : AV) (t11 : Int) (k14 : AHeap → R) : Nat → Int → Int → AHeap → R := iterR (fun _ _ _ => none) (law17_heavy_L0b v10 t11 k14)
theorem law17_heavy_L0_s (v10 : AV) (t11 : Int) (k14 : AHeap → R) (m : Nat) : law17_heavy_L0 v10 t11 k14 (m + 1) = law17_heavy_L0b v10 t11 k14 (law17_heavy_L0 v10 t11 k14 m) := rfl
noncomputable def law17_heavy (_ : CallF) (n : Nat) (t0 : List AV) (h : AHeap) : R :=
  outK (opBox h 30 (some (.agg t0))) fun v1 h_2 =>
  obind (fldP 12 v1) fun t6 =>
  obind (ldCell h_2 t6) fun v7 =>
  obind (avStr v7) fun t7 =>
  obind (fldP 9 v1) fun t9 =>
  obind (ldCell h_2 t9) fun v10 =>
  obind (lenL v10) fun t11 =>
  lett (fun  (h_15 : AHeap) =>
    obind (fldP 12 v1) fun t28 =>
    obind (ldCell h_15 t28) fun v29 =>
    obind (avStr v29) fun t29 =>
    lett (decide ((lenS t29) > 16384)) fun (t31 : Bool) =>
    lett (fun (t37 : Bool) (h_21 : AHeap) =>
      some (.ret (.bool t37), h_21)) fun j37 =>
    ifB t31
    (
      j37 true h_15)
    (
      obind (fldP 9 v1) fun t33 =>
      obind (ldCell h_15 t33) fun v34 =>
      obind (lenL v34) fun t35 =>
      lett (decide (t35 > 1024)) fun (t36 : Bool) =>
      j37 t36 h_15)) fun k14 =>
  law17_heavy_L0 v10 t11 k14 n (lenS t7) 0 h_2
set_option maxHeartbeats 4000000 in
set_option maxRecDepth 20000 in
theorem law17_heavy_ok {call : CallF} (_ : SaysAll Try.prog call) {n : Nat} {t0 : List AV} {h : AHeap} {rR : ARes} {hR : AHeap} (hF : law17_heavy call n t0 h = some (rR, hR)) : Says Try.prog 14 [.agg t0] h rR hR := by
  unfold law17_heavy at hF
  refine says_of (fn := Try.f14) Try.func14 (c := codeOf Try.f14) (by kernel_rfl) (by kernel_rfl) (fun w0 m0 => ?_)
  refine W.weaken (l' := [(0, .agg t0)]) (Fr.c Fr.n) ?_
  refine W.s (fun K1 n1 e1 q1 p1 => ?_)
  refine W.r ?_
  replace hF := outK_some hF; obtain ⟨v1, h_2, e3, hF⟩ := hF
  refine WL.b (some 1) v1 h_2 e3 ?_
  refine WL.a (some 2) (.bool false) h_2 ?_
  refine WL.n ?_
  refine Go.weaken (l' := [(1, v1)]) (Fr.c Fr.n) ?_
  refine n1 ?_
  refine W.s (fun K4 n4 e4 q4 p4 => ?_)
  refine W.r ?_
  replace hF := obind_some hF; obtain ⟨t6, e5, hF⟩ := hF
  refine WL.b (some 6) t6 h_2 (field_ptr (P := Try.prog) (h := h_2) (s := 30) (f := 12) (by kernel_rfl) e5) ?_
  replace hF := obind_some hF; obtain ⟨v7, e6, hF⟩ := hF
  replace hF := obind_some hF; obtain ⟨t7, c7, hF⟩ := hF
  have c7 := avStr_some c7
  subst c7
  refine WL.b (some 7) (strA t7) h_2 (load_cell (P := Try.prog) (h := h_2) (t := 9) (by kernel_rfl) e6) ?_
  refine WL.a (some 8) (.int .i64 (lenS t7)) h_2 ?_
  refine WL.a (some 3) (.int .i64 (lenS t7)) h_2 ?_
  refine WL.n ?_
  refine Go.weaken (l' := [(1, v1), (3, .int .i64 (lenS t7))]) (Fr.c (Fr.c Fr.n)) ?_
  refine n4 ?_
  refine W.s (fun K8 n8 e8 q8 p8 => ?_)
  refine W.s (fun K9 n9 e9 q9 p9 => ?_)
  refine W.r ?_
  replace hF := obind_some hF; obtain ⟨t9, e10, hF⟩ := hF
  refine WL.b (some 9) t9 h_2 (field_ptr (P := Try.prog) (h := h_2) (s := 30) (f := 9) (by kernel_rfl) e10) ?_
  replace hF := obind_some hF; obtain ⟨v10, e11, hF⟩ := hF
  refine WL.b (some 10) v10 h_2 (load_cell (P := Try.prog) (h := h_2) (t := 26) (by kernel_rfl) e11) ?_
  replace hF := obind_some hF; obtain ⟨t11, e12, hF⟩ := hF
  refine WL.b (some 11) (.int .i64 t11) h_2 (len_row (P := Try.prog) (h := h_2) (t := 26) (e' := 42) (by kernel_rfl) e12) ?_
  refine WL.a (some 12) (.int .i64 0) h_2 ?_
  refine WL.n ?_
  refine Go.weaken (l' := [(1, v1), (3, .int .i64 (lenS t7)), (10, v10), (11, .int .i64 t11), (12, .int .i64 0)]) (Fr.c (Fr.c (Fr.c (Fr.c (Fr.c Fr.n))))) ?_
  refine n9 ?_
  replace hF := lett_some hF; obtain ⟨k14, e14, hF⟩ := hF
  have J14 : ∀  (h_15 : AHeap), k14 h_15 = some (rR, hR) → Go w0 m0 (Func.ntmps Try.f14) (K8 .normal) [(1, v1)] [] h_15 := by
    intro  h_15 hF
    rw [e14] at hF
    refine n8 ?_
    refine W.s (fun K16 n16 e16 q16 p16 => ?_)
    refine W.r ?_
    replace hF := obind_some hF; obtain ⟨t28, e17, hF⟩ := hF
    refine WL.b (some 28) t28 h_15 (field_ptr (P := Try.prog) (h := h_15) (s := 30) (f := 12) (by kernel_rfl) e17) ?_
    replace hF := obind_some hF; obtain ⟨v29, e18, hF⟩ := hF
    replace hF := obind_some hF; obtain ⟨t29, c19, hF⟩ := hF
    have c19 := avStr_some c19
    subst c19
    refine WL.b (some 29) (strA t29) h_15 (load_cell (P := Try.prog) (h := h_15) (t := 9) (by kernel_rfl) e18) ?_
    refine WL.a (some 30) (.int .i64 (lenS t29)) h_15 ?_
    replace hF := lett_some hF; obtain ⟨t31, e20, hF⟩ := hF
    refine WL.val (d := (some 31)) (v := .bool t31) (h' := h_15) (by kernel_rfl) (by kernel_rfl) (val_of AV.bool e20 (by kernel_rfl)) ?_
    refine WL.a (some 32) (.bool t31) h_15 ?_
    replace hF := lett_some hF; obtain ⟨j37, e22, hF⟩ := hF
    have J23 : ∀ (t37 : Bool) (h_21 : AHeap), j37 t37 h_21 = some (rR, hR) → WL Try.prog w0 m0 (Func.ntmps Try.f14) (Code.ops (Code.p1 (Code.p2 (Code.p2 (Code.p2 (codeOf Try.f14)))))) 10 K16 [(37, .bool t37)] [] h_21 := by
      intro t37 h_21 hF
      rw [e22] at hF
      refine WL.a (some 2) (.bool t37) h_21 ?_
      refine WL.n ?_
      refine Go.weaken (l' := [(2, .bool t37)]) (Fr.c Fr.n) ?_
      refine n16 ?_
      refine W.ret (by kernel_rfl) ?_
      obtain ⟨hF, hF2⟩ := ret_inj hF; subst hF; subst hF2
      exact leave_of (rs := [.tmp 2]) (vs := [.bool t37]) (by kernel_rfl) (res_tmp (by kernel_rfl) res_nil) (by kernel_rfl)
    cases t31 with
    | true =>
      replace hF := ifB_t hF
      refine WL.o (some 33) ?_
      refine WL.o (some 34) ?_
      refine WL.o (some 35) ?_
      refine WL.o (some 36) ?_
      refine WL.a (some 37) (.bool true) h_15 ?_
      exact WL.weaken (Fr.c Fr.n) (J23 _ _ hF)
    | false =>
      replace hF := ifB_f hF
      replace hF := obind_some hF; obtain ⟨t33, e24, hF⟩ := hF
      refine WL.b (some 33) t33 h_15 (field_ptr (P := Try.prog) (h := h_15) (s := 30) (f := 9) (by kernel_rfl) e24) ?_
      replace hF := obind_some hF; obtain ⟨v34, e25, hF⟩ := hF
      refine WL.b (some 34) v34 h_15 (load_cell (P := Try.prog) (h := h_15) (t := 26) (by kernel_rfl) e25) ?_
      replace hF := obind_some hF; obtain ⟨t35, e26, hF⟩ := hF
      refine WL.b (some 35) (.int .i64 t35) h_15 (len_row (P := Try.prog) (h := h_15) (t := 26) (e' := 42) (by kernel_rfl) e26) ?_
      replace hF := lett_some hF; obtain ⟨t36, e27, hF⟩ := hF
      refine WL.val (d := (some 36)) (v := .bool t36) (h' := h_15) (by kernel_rfl) (by kernel_rfl) (val_of AV.bool e27 (by kernel_rfl)) ?_
      refine WL.a (some 37) (.bool t36) h_15 ?_
      exact WL.weaken (Fr.c Fr.n) (J23 _ _ hF)
  refine W.blockK (by kernel_rfl) (fun K13 n13 s13 o13 q13 p13 => ?_)
  refine W.loopK (by kernel_rfl) (fun I28 K28 b28 n28 e28 q28 p28 => ?_)
  have L28 : ∀ (m : Nat) (t3 : Int) (t12 : Int) (h_29 : AHeap), law17_heavy_L0 v10 t11 k14 m t3 t12 h_29 = some (rR, hR) → Go w0 m0 (Func.ntmps Try.f14) I28 [(1, v1), (3, .int .i64 t3), (10, v10), (11, .int .i64 t11), (12, .int .i64 t12)] [] h_29 := by
    intro m
    induction m with
    | zero => intro t3 t12 h_29 hF; cases hF
    | succ m ih28 =>
      intro t3 t12 h_29 hF
      rw [law17_heavy_L0_s] at hF; unfold law17_heavy_L0b at hF
      refine b28 ?_
      refine W.s (fun K30 n30 e30 q30 p30 => ?_)
      refine W.r ?_
      replace hF := lett_some hF; obtain ⟨t13, e31, hF⟩ := hF
      refine WL.val (d := (some 13)) (v := .bool t13) (h' := h_29) (by kernel_rfl) (by kernel_rfl) (val_of AV.bool e31 (by kernel_rfl)) ?_
      refine WL.n ?_
      refine Go.weaken (l' := [(1, v1), (3, .int .i64 t3), (10, v10), (11, .int .i64 t11), (12, .int .i64 t12), (13, .bool t13)]) (Fr.c (Fr.c (Fr.c (Fr.c (Fr.c (Fr.c Fr.n)))))) ?_
      refine n30 ?_
      refine W.s (fun K32 n32 e32 q32 p32 => ?_)
      cases t13 with
      | true =>
        replace hF := ifB_t hF
        refine W.t ?_
        refine W.skip (by kernel_rfl) ?_
        refine n32 ?_
        refine W.s (fun K33 n33 e33 q33 p33 => ?_)
        refine W.blockK (by kernel_rfl) (fun K34 n34 s34 o34 q34 p34 => ?_)
        refine W.s (fun K35 n35 e35 q35 p35 => ?_)
        refine W.r ?_
        replace hF := obind_some hF; obtain ⟨t14, e36, hF⟩ := hF
        refine WL.b (some 14) t14 h_29 (index_row (P := Try.prog) (h := h_29) (t := 26) (e' := 42) (k := .i64) (by kernel_rfl) (by kernel_rfl) (by kernel_rfl) e36) ?_
        replace hF := obind_some hF; obtain ⟨t15, e37, hF⟩ := hF
        refine WL.b (some 15) (.agg t15) h_29 (load_row (P := Try.prog) (h := h_29) (t := 42) (by kernel_rfl) (by kernel_rfl) e37) ?_
        replace hF := lett_some hF; obtain ⟨h_38, e39, hF⟩ := hF
        refine WL.val (d := (some 5)) (v := (newP h_29)) (h' := h_38) (by kernel_rfl) (by kernel_rfl) (val_ofH e39 (by kernel_rfl)) ?_
        replace hF := obind_some hF; obtain ⟨h_40, e41, hF⟩ := hF
        refine WL.e h_40 (store_row (P := Try.prog) (h := h_38) (t := 42) (v := (.agg t15)) (by kernel_rfl) (by kernel_rfl) e41) ?_
        refine WL.n ?_
        refine Go.weaken (l' := [(1, v1), (3, .int .i64 t3), (5, (newP h_29)), (10, v10), (11, .int .i64 t11), (12, .int .i64 t12)]) (Fr.c (Fr.c (Fr.c (Fr.c (Fr.c (Fr.c Fr.n)))))) ?_
        refine n35 ?_
        refine W.s (fun K42 n42 e42 q42 p42 => ?_)
        refine W.s (fun K43 n43 e43 q43 p43 => ?_)
        refine W.r ?_
        refine WL.a (some 16) (AV.ptr (AHeap.next h_29) 1) h_40 ?_
        replace hF := obind_some hF; obtain ⟨v17, e44, hF⟩ := hF
        replace hF := obind_some hF; obtain ⟨t17, c45, hF⟩ := hF
        have c45 := avStr_some c45
        subst c45
        refine WL.b (some 17) (strA t17) h_40 (load_cell (P := Try.prog) (h := h_40) (t := 9) (by kernel_rfl) e44) ?_
        refine WL.a (some 18) (.int .i64 (lenS t17)) h_40 ?_
        replace hF := lett_some hF; obtain ⟨t19, e46, hF⟩ := hF
        refine WL.val (d := (some 19)) (v := .bool t19) (h' := h_40) (by kernel_rfl) (by kernel_rfl) (val_of AV.bool e46 (by kernel_rfl)) ?_
        refine WL.n ?_
        refine Go.weaken (l' := [(1, v1), (3, .int .i64 t3), (5, (newP h_29)), (10, v10), (11, .int .i64 t11), (12, .int .i64 t12), (19, .bool t19)]) (Fr.c (Fr.c (Fr.c (Fr.c (Fr.c (Fr.c (Fr.c Fr.n))))))) ?_
        refine n43 ?_
        cases t19 with
        | true =>
          replace hF := ifB_t hF
          refine W.t ?_
          refine W.s (fun K47 n47 e47 q47 p47 => ?_)
          refine W.r ?_
          refine WL.a (some 2) (.bool true) h_40 ?_
          refine WL.n ?_
          refine Go.weaken (l' := [(2, .bool true)]) (Fr.c Fr.n) ?_
          refine n47 ?_
          refine W.ret (by kernel_rfl) ?_
          refine q42 ?_
          refine q34 ?_
          refine q33 ?_
          refine q28 ?_
          refine q13 ?_
          refine q8 ?_
          obtain ⟨hF, hF2⟩ := ret_inj hF; subst hF; subst hF2
          exact leave_of (rs := [.tmp 2]) (vs := [.bool true]) (by kernel_rfl) (res_tmp (by kernel_rfl) res_nil) (by kernel_rfl)
        | false =>
          replace hF := ifB_f hF
          refine W.f ?_
          refine W.skip (by kernel_rfl) ?_
          refine n42 ?_
          refine W.s (fun K48 n48 e48 q48 p48 => ?_)
          refine W.r ?_
          refine WL.a (some 20) (.int .i64 t3) h_40 ?_
          refine WL.a (some 21) (AV.ptr (AHeap.next h_29) 1) h_40 ?_
          replace hF := obind_some hF; obtain ⟨v22, e49, hF⟩ := hF
          replace hF := obind_some hF; obtain ⟨t22, c50, hF⟩ := hF
          have c50 := avStr_some c50
          subst c50
          refine WL.b (some 22) (strA t22) h_40 (load_cell (P := Try.prog) (h := h_40) (t := 9) (by kernel_rfl) e49) ?_
          refine WL.a (some 23) (.int .i64 (lenS t22)) h_40 ?_
          replace hF := lett_some hF; obtain ⟨t24, e51, hF⟩ := hF
          refine WL.val (d := (some 24)) (v := .int .i64 t24) (h' := h_40) (by kernel_rfl) (by kernel_rfl) (val_of (AV.int .i64) e51 (by kernel_rfl)) ?_
          refine WL.a (some 3) (.int .i64 t24) h_40 ?_
          refine WL.n ?_
          refine Go.weaken (l' := [(1, v1), (3, .int .i64 t24), (10, v10), (11, .int .i64 t11), (12, .int .i64 t12)]) (Fr.c (Fr.c (Fr.c (Fr.c (Fr.c Fr.n))))) ?_
          refine n48 ?_
          refine W.s (fun K52 n52 e52 q52 p52 => ?_)
          refine W.r ?_
          refine WL.a (some 25) (.int .i64 t24) h_40 ?_
          replace hF := lett_some hF; obtain ⟨t26, e53, hF⟩ := hF
          refine WL.val (d := (some 26)) (v := .bool t26) (h' := h_40) (by kernel_rfl) (by kernel_rfl) (val_of AV.bool e53 (by kernel_rfl)) ?_
          refine WL.n ?_
          refine Go.weaken (l' := [(1, v1), (3, .int .i64 t24), (10, v10), (11, .int .i64 t11), (12, .int .i64 t12), (26, .bool t26)]) (Fr.c (Fr.c (Fr.c (Fr.c (Fr.c (Fr.c Fr.n)))))) ?_
          refine n52 ?_
          cases t26 with
          | true =>
            replace hF := ifB_t hF
            refine W.t ?_
            refine W.s (fun K54 n54 e54 q54 p54 => ?_)
            refine W.r ?_
            refine WL.a (some 2) (.bool true) h_40 ?_
            refine WL.n ?_
            refine Go.weaken (l' := [(2, .bool true)]) (Fr.c Fr.n) ?_
            refine n54 ?_
            refine W.ret (by kernel_rfl) ?_
            refine q34 ?_
            refine q33 ?_
            refine q28 ?_
            refine q13 ?_
            refine q8 ?_
            obtain ⟨hF, hF2⟩ := ret_inj hF; subst hF; subst hF2
            exact leave_of (rs := [.tmp 2]) (vs := [.bool true]) (by kernel_rfl) (res_tmp (by kernel_rfl) res_nil) (by kernel_rfl)
          | false =>
            replace hF := ifB_f hF
            refine W.f ?_
            refine W.skip (by kernel_rfl) ?_
            refine n34 ?_
            refine n33 ?_
            refine W.r ?_
            replace hF := lett_some hF; obtain ⟨t27, e55, hF⟩ := hF
            refine WL.val (d := (some 27)) (v := .int .i64 t27) (h' := h_40) (by kernel_rfl) (by kernel_rfl) (val_of (AV.int .i64) e55 (by kernel_rfl)) ?_
            refine WL.a (some 12) (.int .i64 t27) h_40 ?_
            refine WL.n ?_
            refine Go.weaken (l' := [(1, v1), (3, .int .i64 t24), (10, v10), (11, .int .i64 t11), (12, .int .i64 t27)]) (Fr.c (Fr.c (Fr.c (Fr.c (Fr.c Fr.n))))) ?_
            refine n28 ?_
            exact Go.weaken (Fr.c (Fr.c (Fr.c (Fr.c (Fr.c Fr.n))))) (ih28 _ _ _ hF)
      | false =>
        replace hF := ifB_f hF
        refine W.f ?_
        refine W.exit (by kernel_rfl) ?_
        refine e32 ?_
        refine e28 ?_
        refine s13 (by kernel_rfl) ?_
        exact Go.weaken (Fr.c Fr.n) (J14 _ hF)
  exact Go.weaken (Fr.c (Fr.c (Fr.c (Fr.c (Fr.c Fr.n))))) (L28 _ _ _ _ hF)
noncomputable def law17_heavy_fn (call : CallF) (n : Nat) : FnT := fun args h => match args with
  | [x0] => obind (avAgg x0) fun t0 => law17_heavy call n t0 h
  | _ => none
set_option maxRecDepth 100000 in
theorem law17_heavy_fn_eq (call : CallF) (n : Nat) (t0 : List AV) (h : AHeap) : law17_heavy_fn call n [.agg t0] h = law17_heavy call n t0 h :=
  (Eq.trans (obind_eq (fun t0 => law17_heavy call n t0 h) (avAgg_agg t0)) rfl)
theorem law17_heavy_holds {call : CallF} (hc : SaysAll Try.prog call) (n : Nat) : Holds Try.prog 14 (law17_heavy_fn call n) := by
  intro args h r h2 e
  unfold law17_heavy_fn at e
  split at e
  · replace e := obind_some e; obtain ⟨t0, c0, e⟩ := e; have c0 := avAgg_some c0; subst c0
    exact law17_heavy_ok hc e
  · cases e

noncomputable def slices_Clone___api_Entry_api_Entry_ (_ : CallF) (_ : Nat) (t0 : AV) (h : AHeap) : R :=
  outK (opBin Try.prog h .eql 26 true (some t0) (some AV.nsl)) fun v4 h_4 =>
  obind (avBool v4) fun t4 =>
  ifB t4
  (
    some (.ret (AV.nsl), h_4))
  (
    outK (bldSl Try.prog h_4 26 0 []) fun v5 h_9 =>
    outK (opAppend Try.prog h_9 26 26 v5 t0) fun v7 h_11 =>
    some (.ret (v7), h_11))
set_option maxHeartbeats 4000000 in
set_option maxRecDepth 20000 in
theorem slices_Clone___api_Entry_api_Entry__ok {call : CallF} (_ : SaysAll Try.prog call) {n : Nat} {t0 : AV} {h : AHeap} {rR : ARes} {hR : AHeap} (hF : slices_Clone___api_Entry_api_Entry_ call n t0 h = some (rR, hR)) : Says Try.prog 15 [t0] h rR hR := by
  unfold slices_Clone___api_Entry_api_Entry_ at hF
  refine says_of (fn := Try.f15) Try.func15 (c := codeOf Try.f15) (by kernel_rfl) (by kernel_rfl) (fun w0 m0 => ?_)
  refine W.weaken (l' := [(0, t0)]) (Fr.c Fr.n) ?_
  refine W.s (fun K1 n1 e1 q1 p1 => ?_)
  refine W.r ?_
  refine WL.a (some 2) AV.nsl h ?_
  refine WL.n ?_
  refine Go.weaken (l' := [(0, t0)]) (Fr.c Fr.n) ?_
  refine n1 ?_
  refine W.s (fun K2 n2 e2 q2 p2 => ?_)
  refine W.s (fun K3 n3 e3 q3 p3 => ?_)
  refine W.r ?_
  refine WL.a (some 3) t0 h ?_
  replace hF := outK_some hF; obtain ⟨v4, h_4, e5, hF⟩ := hF
  replace hF := obind_some hF; obtain ⟨t4, c6, hF⟩ := hF
  have c6 := avBool_some c6
  subst c6
  refine WL.b (some 4) (.bool t4) h_4 e5 ?_
  refine WL.n ?_
  refine Go.weaken (l' := [(0, t0), (4, .bool t4)]) (Fr.c (Fr.c Fr.n)) ?_
  refine n3 ?_
  cases t4 with
  | true =>
    replace hF := ifB_t hF
    refine W.t ?_
    refine W.s (fun K7 n7 e7 q7 p7 => ?_)
    refine W.r ?_
    refine WL.a (some 2) AV.nsl h_4 ?_
    refine WL.n ?_
    refine Go.weaken (l' := [(2, AV.nsl)]) (Fr.c Fr.n) ?_
    refine n7 ?_
    refine W.ret (by kernel_rfl) ?_
    refine q2 ?_
    obtain ⟨hF, hF2⟩ := ret_inj hF; subst hF; subst hF2
    exact leave_of (rs := [.tmp 2]) (vs := [AV.nsl]) (by kernel_rfl) (res_tmp (by kernel_rfl) res_nil) (by kernel_rfl)
  | false =>
    replace hF := ifB_f hF
    refine W.f ?_
    refine W.skip (by kernel_rfl) ?_
    refine n2 ?_
    refine W.s (fun K8 n8 e8 q8 p8 => ?_)
    refine W.r ?_
    replace hF := outK_some hF; obtain ⟨v5, h_9, e10, hF⟩ := hF
    refine WL.b (some 5) v5 h_9 e10 ?_
    refine WL.a (some 6) t0 h_9 ?_
    replace hF := outK_some hF; obtain ⟨v7, h_11, e12, hF⟩ := hF
    refine WL.b (some 7) v7 h_11 e12 ?_
    refine WL.a (some 2) v7 h_11 ?_
    refine WL.n ?_
    refine Go.weaken (l' := [(2, v7)]) (Fr.c Fr.n) ?_
    refine n8 ?_
    refine W.ret (by kernel_rfl) ?_
    obtain ⟨hF, hF2⟩ := ret_inj hF; subst hF; subst hF2
    exact leave_of (rs := [.tmp 2]) (vs := [v7]) (by kernel_rfl) (res_tmp (by kernel_rfl) res_nil) (by kernel_rfl)
noncomputable def slices_Clone___api_Entry_api_Entry__fn (call : CallF) (n : Nat) : FnT := fun args h => match args with
  | [x0] => slices_Clone___api_Entry_api_Entry_ call n x0 h
  | _ => none
set_option maxRecDepth 100000 in
theorem slices_Clone___api_Entry_api_Entry__fn_eq (call : CallF) (n : Nat) (t0 : AV) (h : AHeap) : slices_Clone___api_Entry_api_Entry__fn call n [t0] h = slices_Clone___api_Entry_api_Entry_ call n t0 h :=
  rfl
theorem slices_Clone___api_Entry_api_Entry__holds {call : CallF} (hc : SaysAll Try.prog call) (n : Nat) : Holds Try.prog 15 (slices_Clone___api_Entry_api_Entry__fn call n) := by
  intro args h r h2 e
  unfold slices_Clone___api_Entry_api_Entry__fn at e
  split at e
  · exact slices_Clone___api_Entry_api_Entry__ok hc e
  · cases e

noncomputable def law17_MessageCodes (call : CallF) (_ : Nat) (t0 : List AV) (h : AHeap) : R :=
  outK (opBox h 30 (some (.agg t0))) fun v1 h_2 =>
  callN (call 8 [] h_2) fun r7 h_6 =>
  obind (avBool r7) fun t7 =>
  lett (!t7) fun (t8 : Bool) =>
  ifB t8
  (
    some (.ret (.bool false), h_6))
  (
    obind (ldRow h_6 22 v1) fun t9 =>
    callN (call 14 [.agg t9] h_6) fun r10 h_14 =>
    obind (avBool r10) fun t10 =>
    ifB t10
    (
      some (.ret (.bool true), h_14))
    (
      obind (ldRow h_14 22 v1) fun t11 =>
      lett (newH h_14 30 [.int .u8 0, .int .i64 0, .int .i64 0, .int .i64 0, .int .i64 0, .int .i64 0, .int .i64 0, .int .i64 0, .bool false, .nsl, .int .i64 0, .int .i64 0, .str 0 0, .int .i64 0, .int .i64 0, .int .i64 0, .int .i64 0, .int .i64 0, .int .i64 0, .int .u8 0, .int .i64 0, .int .i64 0]) fun h_20 =>
      obind (stRow h_20 22 t11 (newP h_14)) fun h_22 =>
      obind (fldP 9 v1) fun t12 =>
      obind (ldCell h_22 t12) fun v13 =>
      callN (call 15 [v13] h_22) fun r14 h_27 =>
      obind (stRow h_27 1 (AV.cells r14) (AV.ptr (AHeap.next h_14) 9)) fun h_29 =>
      obind (ldRow h_29 22 v1) fun t16 =>
      callN (call 16 [.agg t16] h_29) fun r17 h_33 =>
      obind (avInt .i64 r17) fun t17 =>
      obind (ldRow h_33 22 (newP h_14)) fun t19 =>
      callN (call 9 [.agg t19] h_33) fun r20 h_38 =>
      obind (extT 0 r20) fun v21 =>
      obind (avStr v21) fun t21 =>
      obind (extT 1 r20) fun v22 =>
      obind (avInt .i64 v22) fun t22 =>
      obind (ldRow h_38 22 (newP h_14)) fun t23 =>
      callN (call 12 [.agg t23] h_38) fun r24 h_47 =>
      obind (avInt .i64 r24) fun t24 =>
      lett ((t24 : Int) != t17) fun (t26 : Bool) =>
      lett (fun (t31 : Bool) (h_51 : AHeap) =>
        lett (fun (t37 : Bool) (h_54 : AHeap) =>
          ifB t37
          (
            some (.ret (.bool false), h_54))
          (
            lett ((t17 : Int) != 0) fun (t39 : Bool) =>
            ifB t39
            (
              lett (eqS t21 ([] : Bytes)) fun (t41 : Bool) =>
              some (.ret (.bool t41), h_54))
            (
              obind (ldRow h_54 22 v1) fun t43 =>
              callN (call 18 [.agg t43] h_54) fun r44 h_65 =>
              obind (avStr r44) fun t44 =>
              lett (eqS t21 t44) fun (t45 : Bool) =>
              some (.ret (.bool t45), h_65)))) fun j37 =>
        ifB t31
        (
          j37 true h_51)
        (
          obind (ldRow h_51 22 (newP h_14)) fun t33 =>
          obind (ldRow h_51 22 v1) fun t34 =>
          callN (call 17 [.agg t33, .agg t34] h_51) fun r35 h_71 =>
          obind (avBool r35) fun t35 =>
          lett (!t35) fun (t36 : Bool) =>
          j37 t36 h_71)) fun j31 =>
      ifB t26
      (
        j31 true h_47)
      (
        lett ((t22 : Int) != t17) fun (t30 : Bool) =>
        j31 t30 h_47)))
set_option maxHeartbeats 4000000 in
set_option maxRecDepth 20000 in
theorem law17_MessageCodes_ok {call : CallF} (hc : SaysAll Try.prog call) {n : Nat} {t0 : List AV} {h : AHeap} {rR : ARes} {hR : AHeap} (hF : law17_MessageCodes call n t0 h = some (rR, hR)) : Says Try.prog 4 [.agg t0] h rR hR := by
  unfold law17_MessageCodes at hF
  refine says_of (fn := Try.f4) Try.func4 (c := codeOf Try.f4) (by kernel_rfl) (by kernel_rfl) (fun w0 m0 => ?_)
  refine W.weaken (l' := [(0, .agg t0)]) (Fr.c Fr.n) ?_
  refine W.s (fun K1 n1 e1 q1 p1 => ?_)
  refine W.r ?_
  replace hF := outK_some hF; obtain ⟨v1, h_2, e3, hF⟩ := hF
  refine WL.b (some 1) v1 h_2 e3 ?_
  refine WL.a (some 2) (.bool false) h_2 ?_
  refine WL.n ?_
  refine Go.weaken (l' := [(1, v1)]) (Fr.c Fr.n) ?_
  refine n1 ?_
  refine W.s (fun K4 n4 e4 q4 p4 => ?_)
  refine W.s (fun K5 n5 e5 q5 p5 => ?_)
  refine W.r ?_
  replace hF := callN_some hF; obtain ⟨r7, h_6, e7, hF⟩ := hF
  replace hF := obind_some hF; obtain ⟨t7, c8, hF⟩ := hF
  have c8 := avBool_some c8
  subst c8
  refine WL.c (hc.ok w0) (some 7) e7 ?_
  replace hF := lett_some hF; obtain ⟨t8, e9, hF⟩ := hF
  refine WL.val (d := (some 8)) (v := .bool t8) (h' := h_6) (by kernel_rfl) (by kernel_rfl) (val_of AV.bool e9 (by kernel_rfl)) ?_
  refine WL.n ?_
  refine Go.weaken (l' := [(1, v1), (8, .bool t8)]) (Fr.c (Fr.c Fr.n)) ?_
  refine n5 ?_
  cases t8 with
  | true =>
    replace hF := ifB_t hF
    refine W.t ?_
    refine W.s (fun K10 n10 e10 q10 p10 => ?_)
    refine W.r ?_
    refine WL.a (some 2) (.bool false) h_6 ?_
    refine WL.n ?_
    refine Go.weaken (l' := [(2, .bool false)]) (Fr.c Fr.n) ?_
    refine n10 ?_
    refine W.ret (by kernel_rfl) ?_
    refine q4 ?_
    obtain ⟨hF, hF2⟩ := ret_inj hF; subst hF; subst hF2
    exact leave_of (rs := [.tmp 2]) (vs := [.bool false]) (by kernel_rfl) (res_tmp (by kernel_rfl) res_nil) (by kernel_rfl)
  | false =>
    replace hF := ifB_f hF
    refine W.f ?_
    refine W.skip (by kernel_rfl) ?_
    refine n4 ?_
    refine W.s (fun K11 n11 e11 q11 p11 => ?_)
    refine W.s (fun K12 n12 e12 q12 p12 => ?_)
    refine W.r ?_
    replace hF := obind_some hF; obtain ⟨t9, e13, hF⟩ := hF
    refine WL.b (some 9) (.agg t9) h_6 (load_row (P := Try.prog) (h := h_6) (t := 30) (by kernel_rfl) (by kernel_rfl) e13) ?_
    replace hF := callN_some hF; obtain ⟨r10, h_14, e15, hF⟩ := hF
    replace hF := obind_some hF; obtain ⟨t10, c16, hF⟩ := hF
    have c16 := avBool_some c16
    subst c16
    refine WL.c (hc.ok w0) (some 10) e15 ?_
    refine WL.n ?_
    refine Go.weaken (l' := [(1, v1), (10, .bool t10)]) (Fr.c (Fr.c Fr.n)) ?_
    refine n12 ?_
    cases t10 with
    | true =>
      replace hF := ifB_t hF
      refine W.t ?_
      refine W.s (fun K17 n17 e17 q17 p17 => ?_)
      refine W.r ?_
      refine WL.a (some 2) (.bool true) h_14 ?_
      refine WL.n ?_
      refine Go.weaken (l' := [(2, .bool true)]) (Fr.c Fr.n) ?_
      refine n17 ?_
      refine W.ret (by kernel_rfl) ?_
      refine q11 ?_
      obtain ⟨hF, hF2⟩ := ret_inj hF; subst hF; subst hF2
      exact leave_of (rs := [.tmp 2]) (vs := [.bool true]) (by kernel_rfl) (res_tmp (by kernel_rfl) res_nil) (by kernel_rfl)
    | false =>
      replace hF := ifB_f hF
      refine W.f ?_
      refine W.skip (by kernel_rfl) ?_
      refine n11 ?_
      refine W.s (fun K18 n18 e18 q18 p18 => ?_)
      refine W.r ?_
      replace hF := obind_some hF; obtain ⟨t11, e19, hF⟩ := hF
      refine WL.b (some 11) (.agg t11) h_14 (load_row (P := Try.prog) (h := h_14) (t := 30) (by kernel_rfl) (by kernel_rfl) e19) ?_
      replace hF := lett_some hF; obtain ⟨h_20, e21, hF⟩ := hF
      refine WL.val (d := (some 3)) (v := (newP h_14)) (h' := h_20) (by kernel_rfl) (by kernel_rfl) (val_ofH e21 (by kernel_rfl)) ?_
      replace hF := obind_some hF; obtain ⟨h_22, e23, hF⟩ := hF
      refine WL.e h_22 (store_row (P := Try.prog) (h := h_20) (t := 30) (v := (.agg t11)) (by kernel_rfl) (by kernel_rfl) e23) ?_
      refine WL.n ?_
      refine Go.weaken (l' := [(1, v1), (3, (newP h_14))]) (Fr.c (Fr.c Fr.n)) ?_
      refine n18 ?_
      refine W.s (fun K24 n24 e24 q24 p24 => ?_)
      refine W.r ?_
      replace hF := obind_some hF; obtain ⟨t12, e25, hF⟩ := hF
      refine WL.b (some 12) t12 h_22 (field_ptr (P := Try.prog) (h := h_22) (s := 30) (f := 9) (by kernel_rfl) e25) ?_
      replace hF := obind_some hF; obtain ⟨v13, e26, hF⟩ := hF
      refine WL.b (some 13) v13 h_22 (load_cell (P := Try.prog) (h := h_22) (t := 26) (by kernel_rfl) e26) ?_
      replace hF := callN_some hF; obtain ⟨r14, h_27, e28, hF⟩ := hF
      refine WL.c (hc.ok w0) (some 14) e28 ?_
      refine WL.a (some 15) (AV.ptr (AHeap.next h_14) 9) h_27 ?_
      replace hF := obind_some hF; obtain ⟨h_29, e30, hF⟩ := hF
      refine WL.e h_29 (store_row (P := Try.prog) (h := h_27) (t := 26) (v := r14) (by kernel_rfl) (by kernel_rfl) e30) ?_
      refine WL.n ?_
      refine Go.weaken (l' := [(1, v1), (3, (newP h_14))]) (Fr.c (Fr.c Fr.n)) ?_
      refine n24 ?_
      refine W.s (fun K31 n31 e31 q31 p31 => ?_)
      refine W.r ?_
      replace hF := obind_some hF; obtain ⟨t16, e32, hF⟩ := hF
      refine WL.b (some 16) (.agg t16) h_29 (load_row (P := Try.prog) (h := h_29) (t := 30) (by kernel_rfl) (by kernel_rfl) e32) ?_
      replace hF := callN_some hF; obtain ⟨r17, h_33, e34, hF⟩ := hF
      replace hF := obind_some hF; obtain ⟨t17, c35, hF⟩ := hF
      have c35 := avInt_some c35
      subst c35
      refine WL.c (hc.ok w0) (some 17) e34 ?_
      refine WL.a (some 4) (.int .i64 t17) h_33 ?_
      refine WL.n ?_
      refine Go.weaken (l' := [(1, v1), (3, (newP h_14)), (4, .int .i64 t17)]) (Fr.c (Fr.c (Fr.c Fr.n))) ?_
      refine n31 ?_
      refine W.s (fun K36 n36 e36 q36 p36 => ?_)
      refine W.r ?_
      replace hF := obind_some hF; obtain ⟨t19, e37, hF⟩ := hF
      refine WL.b (some 19) (.agg t19) h_33 (load_row (P := Try.prog) (h := h_33) (t := 30) (by kernel_rfl) (by kernel_rfl) e37) ?_
      replace hF := callN_some hF; obtain ⟨r20, h_38, e39, hF⟩ := hF
      refine WL.c (hc.ok w0) (some 20) e39 ?_
      refine WL.a (some 18) r20 h_38 ?_
      replace hF := obind_some hF; obtain ⟨v21, e40, hF⟩ := hF
      replace hF := obind_some hF; obtain ⟨t21, c41, hF⟩ := hF
      have c41 := avStr_some c41
      subst c41
      refine WL.b (some 21) (strA t21) h_38 (extract_tup (h := h_38) e40) ?_
      replace hF := obind_some hF; obtain ⟨v22, e42, hF⟩ := hF
      replace hF := obind_some hF; obtain ⟨t22, c43, hF⟩ := hF
      have c43 := avInt_some c43
      subst c43
      refine WL.b (some 22) (.int .i64 t22) h_38 (extract_tup (h := h_38) e42) ?_
      refine WL.a (some 5) (strA t21) h_38 ?_
      refine WL.a (some 6) (.int .i64 t22) h_38 ?_
      refine WL.n ?_
      refine Go.weaken (l' := [(1, v1), (3, (newP h_14)), (4, .int .i64 t17), (5, strA t21), (6, .int .i64 t22)]) (Fr.c (Fr.c (Fr.c (Fr.c (Fr.c Fr.n))))) ?_
      refine n36 ?_
      refine W.s (fun K44 n44 e44 q44 p44 => ?_)
      refine W.s (fun K45 n45 e45 q45 p45 => ?_)
      refine W.r ?_
      replace hF := obind_some hF; obtain ⟨t23, e46, hF⟩ := hF
      refine WL.b (some 23) (.agg t23) h_38 (load_row (P := Try.prog) (h := h_38) (t := 30) (by kernel_rfl) (by kernel_rfl) e46) ?_
      replace hF := callN_some hF; obtain ⟨r24, h_47, e48, hF⟩ := hF
      replace hF := obind_some hF; obtain ⟨t24, c49, hF⟩ := hF
      have c49 := avInt_some c49
      subst c49
      refine WL.c (hc.ok w0) (some 24) e48 ?_
      refine WL.a (some 25) (.int .i64 t17) h_47 ?_
      replace hF := lett_some hF; obtain ⟨t26, e50, hF⟩ := hF
      refine WL.val (d := (some 26)) (v := .bool t26) (h' := h_47) (by kernel_rfl) (by kernel_rfl) (val_of AV.bool e50 (by kernel_rfl)) ?_
      refine WL.a (some 27) (.bool t26) h_47 ?_
      replace hF := lett_some hF; obtain ⟨j31, e52, hF⟩ := hF
      have J53 : ∀ (t31 : Bool) (h_51 : AHeap), j31 t31 h_51 = some (rR, hR) → WL Try.prog w0 m0 (Func.ntmps Try.f4) (Code.ops (Code.p1 (Code.p1 (Code.p2 (Code.p2 (Code.p2 (Code.p2 (Code.p2 (Code.p2 (Code.p2 (codeOf Try.f4))))))))))) 9 K45 [(1, v1), (3, (newP h_14)), (4, .int .i64 t17), (5, strA t21), (31, .bool t31)] [] h_51 := by
        intro t31 h_51 hF
        rw [e52] at hF
        refine WL.a (some 32) (.bool t31) h_51 ?_
        replace hF := lett_some hF; obtain ⟨j37, e55, hF⟩ := hF
        have J56 : ∀ (t37 : Bool) (h_54 : AHeap), j37 t37 h_54 = some (rR, hR) → WL Try.prog w0 m0 (Func.ntmps Try.f4) (Code.ops (Code.p1 (Code.p1 (Code.p2 (Code.p2 (Code.p2 (Code.p2 (Code.p2 (Code.p2 (Code.p2 (codeOf Try.f4))))))))))) 15 K45 [(1, v1), (4, .int .i64 t17), (5, strA t21), (37, .bool t37)] [] h_54 := by
          intro t37 h_54 hF
          rw [e55] at hF
          refine WL.n ?_
          refine Go.weaken (l' := [(1, v1), (4, .int .i64 t17), (5, strA t21), (37, .bool t37)]) (Fr.c (Fr.c (Fr.c (Fr.c Fr.n)))) ?_
          refine n45 ?_
          cases t37 with
          | true =>
            replace hF := ifB_t hF
            refine W.t ?_
            refine W.s (fun K57 n57 e57 q57 p57 => ?_)
            refine W.r ?_
            refine WL.a (some 2) (.bool false) h_54 ?_
            refine WL.n ?_
            refine Go.weaken (l' := [(2, .bool false)]) (Fr.c Fr.n) ?_
            refine n57 ?_
            refine W.ret (by kernel_rfl) ?_
            refine q44 ?_
            obtain ⟨hF, hF2⟩ := ret_inj hF; subst hF; subst hF2
            exact leave_of (rs := [.tmp 2]) (vs := [.bool false]) (by kernel_rfl) (res_tmp (by kernel_rfl) res_nil) (by kernel_rfl)
          | false =>
            replace hF := ifB_f hF
            refine W.f ?_
            refine W.skip (by kernel_rfl) ?_
            refine n44 ?_
            refine W.s (fun K58 n58 e58 q58 p58 => ?_)
            refine W.s (fun K59 n59 e59 q59 p59 => ?_)
            refine W.r ?_
            refine WL.a (some 38) (.int .i64 t17) h_54 ?_
            replace hF := lett_some hF; obtain ⟨t39, e60, hF⟩ := hF
            refine WL.val (d := (some 39)) (v := .bool t39) (h' := h_54) (by kernel_rfl) (by kernel_rfl) (val_of AV.bool e60 (by kernel_rfl)) ?_
            refine WL.n ?_
            refine Go.weaken (l' := [(1, v1), (5, strA t21), (39, .bool t39)]) (Fr.c (Fr.c (Fr.c Fr.n))) ?_
            refine n59 ?_
            cases t39 with
            | true =>
              replace hF := ifB_t hF
              refine W.t ?_
              refine W.s (fun K61 n61 e61 q61 p61 => ?_)
              refine W.r ?_
              refine WL.a (some 40) (strA t21) h_54 ?_
              replace hF := lett_some hF; obtain ⟨t41, e62, hF⟩ := hF
              refine WL.val (d := (some 41)) (v := .bool t41) (h' := h_54) (by kernel_rfl) (by kernel_rfl) (val_of AV.bool e62 (by kernel_rfl)) ?_
              refine WL.a (some 2) (.bool t41) h_54 ?_
              refine WL.n ?_
              refine Go.weaken (l' := [(2, .bool t41)]) (Fr.c Fr.n) ?_
              refine n61 ?_
              refine W.ret (by kernel_rfl) ?_
              refine q58 ?_
              obtain ⟨hF, hF2⟩ := ret_inj hF; subst hF; subst hF2
              exact leave_of (rs := [.tmp 2]) (vs := [.bool t41]) (by kernel_rfl) (res_tmp (by kernel_rfl) res_nil) (by kernel_rfl)
            | false =>
              replace hF := ifB_f hF
              refine W.f ?_
              refine W.skip (by kernel_rfl) ?_
              refine n58 ?_
              refine W.s (fun K63 n63 e63 q63 p63 => ?_)
              refine W.r ?_
              refine WL.a (some 42) (strA t21) h_54 ?_
              replace hF := obind_some hF; obtain ⟨t43, e64, hF⟩ := hF
              refine WL.b (some 43) (.agg t43) h_54 (load_row (P := Try.prog) (h := h_54) (t := 30) (by kernel_rfl) (by kernel_rfl) e64) ?_
              replace hF := callN_some hF; obtain ⟨r44, h_65, e66, hF⟩ := hF
              replace hF := obind_some hF; obtain ⟨t44, c67, hF⟩ := hF
              have c67 := avStr_some c67
              subst c67
              refine WL.c (hc.ok w0) (some 44) e66 ?_
              replace hF := lett_some hF; obtain ⟨t45, e68, hF⟩ := hF
              refine WL.val (d := (some 45)) (v := .bool t45) (h' := h_65) (by kernel_rfl) (by kernel_rfl) (val_of AV.bool e68 (by kernel_rfl)) ?_
              refine WL.a (some 2) (.bool t45) h_65 ?_
              refine WL.n ?_
              refine Go.weaken (l' := [(2, .bool t45)]) (Fr.c Fr.n) ?_
              refine n63 ?_
              refine W.ret (by kernel_rfl) ?_
              obtain ⟨hF, hF2⟩ := ret_inj hF; subst hF; subst hF2
              exact leave_of (rs := [.tmp 2]) (vs := [.bool t45]) (by kernel_rfl) (res_tmp (by kernel_rfl) res_nil) (by kernel_rfl)
        cases t31 with
        | true =>
          replace hF := ifB_t hF
          refine WL.o (some 33) ?_
          refine WL.o (some 34) ?_
          refine WL.o (some 35) ?_
          refine WL.o (some 36) ?_
          refine WL.a (some 37) (.bool true) h_51 ?_
          exact WL.weaken (Fr.c (Fr.c (Fr.c (Fr.c Fr.n)))) (J56 _ _ hF)
        | false =>
          replace hF := ifB_f hF
          replace hF := obind_some hF; obtain ⟨t33, e69, hF⟩ := hF
          refine WL.b (some 33) (.agg t33) h_51 (load_row (P := Try.prog) (h := h_51) (t := 30) (by kernel_rfl) (by kernel_rfl) e69) ?_
          replace hF := obind_some hF; obtain ⟨t34, e70, hF⟩ := hF
          refine WL.b (some 34) (.agg t34) h_51 (load_row (P := Try.prog) (h := h_51) (t := 30) (by kernel_rfl) (by kernel_rfl) e70) ?_
          replace hF := callN_some hF; obtain ⟨r35, h_71, e72, hF⟩ := hF
          replace hF := obind_some hF; obtain ⟨t35, c73, hF⟩ := hF
          have c73 := avBool_some c73
          subst c73
          refine WL.c (hc.ok w0) (some 35) e72 ?_
          replace hF := lett_some hF; obtain ⟨t36, e74, hF⟩ := hF
          refine WL.val (d := (some 36)) (v := .bool t36) (h' := h_71) (by kernel_rfl) (by kernel_rfl) (val_of AV.bool e74 (by kernel_rfl)) ?_
          refine WL.a (some 37) (.bool t36) h_71 ?_
          exact WL.weaken (Fr.c (Fr.c (Fr.c (Fr.c Fr.n)))) (J56 _ _ hF)
      cases t26 with
      | true =>
        replace hF := ifB_t hF
        refine WL.o (some 28) ?_
        refine WL.o (some 29) ?_
        refine WL.o (some 30) ?_
        refine WL.a (some 31) (.bool true) h_47 ?_
        exact WL.weaken (Fr.c (Fr.c (Fr.c (Fr.c (Fr.c Fr.n))))) (J53 _ _ hF)
      | false =>
        replace hF := ifB_f hF
        refine WL.a (some 28) (.int .i64 t22) h_47 ?_
        refine WL.a (some 29) (.int .i64 t17) h_47 ?_
        replace hF := lett_some hF; obtain ⟨t30, e75, hF⟩ := hF
        refine WL.val (d := (some 30)) (v := .bool t30) (h' := h_47) (by kernel_rfl) (by kernel_rfl) (val_of AV.bool e75 (by kernel_rfl)) ?_
        refine WL.a (some 31) (.bool t30) h_47 ?_
        exact WL.weaken (Fr.c (Fr.c (Fr.c (Fr.c (Fr.c Fr.n))))) (J53 _ _ hF)
noncomputable def law17_MessageCodes_fn (call : CallF) (n : Nat) : FnT := fun args h => match args with
  | [x0] => obind (avAgg x0) fun t0 => law17_MessageCodes call n t0 h
  | _ => none
set_option maxRecDepth 100000 in
theorem law17_MessageCodes_fn_eq (call : CallF) (n : Nat) (t0 : List AV) (h : AHeap) : law17_MessageCodes_fn call n [.agg t0] h = law17_MessageCodes call n t0 h :=
  (Eq.trans (obind_eq (fun t0 => law17_MessageCodes call n t0 h) (avAgg_agg t0)) rfl)
theorem law17_MessageCodes_holds {call : CallF} (hc : SaysAll Try.prog call) (n : Nat) : Holds Try.prog 4 (law17_MessageCodes_fn call n) := by
  intro args h r h2 e
  unfold law17_MessageCodes_fn at e
  split at e
  · replace e := obind_some e; obtain ⟨t0, c0, e⟩ := e; have c0 := avAgg_some c0; subst c0
    exact law17_MessageCodes_ok hc e
  · cases e

end Go.Proofs.Ytmibgiblejpgdaa
