/- Plain functions in place of the program's, and that their calls come to what they say. -/
import Derived.Test.YtmibgiblejpgdaaFrame
import Derived.Test.YtmibgiblejpgdaaAbs50
namespace Go.Proofs.Ytmibgiblejpgdaa
open Go.RowKit Abs

noncomputable def ref17_Check_L1b (r8 : AV) (k33 : AHeap → R) (self : Int → AHeap → R) (t4 : Int) (h_102 : AHeap) : R :=
  obind (lenL r8) fun t39 =>
  lett (decide (t4 < t39)) fun (t40 : Bool) =>
  ifB t40
  (
    obind (idxP 1 r8 t4) fun t45 =>
    obind (ldCell h_102 t45) fun v46 =>
    obind (avInt .i64 v46) fun t46 =>
    lett (decide (t46 < 0)) fun (t47 : Bool) =>
    lett (fun (t54 : Bool) (h_114 : AHeap) =>
      lett (fun (t65 : Bool) (h_117 : AHeap) =>
        ifB t65
        (
          some (.ret (.int .i64 2), h_117))
        (
          lett (IntKind.i64.wrap (t4 + 1)) fun (t42 : Int) =>
          self t42 h_117)) fun j65 =>
      ifB t54
      (
        j65 true h_114)
      (
        lett (decide (t4 < 2)) fun (t57 : Bool) =>
        lett (fun (t64 : Bool) (h_123 : AHeap) =>
          j65 t64 h_123) fun j64 =>
        ifB t57
        (
          obind (idxP 1 r8 t4) fun t61 =>
          obind (ldCell h_114 t61) fun v62 =>
          obind (avInt .i64 v62) fun t62 =>
          lett (decide (t62 > 15)) fun (t63 : Bool) =>
          j64 t63 h_114)
        (
          j64 false h_114))) fun j54 =>
    ifB t47
    (
      j54 true h_102)
    (
      obind (idxP 1 r8 t4) fun t51 =>
      obind (ldCell h_102 t51) fun v52 =>
      obind (avInt .i64 v52) fun t52 =>
      lett (decide (t52 > 1125899906842624)) fun (t53 : Bool) =>
      j54 t53 h_102))
  (
    k33 h_102)
noncomputable def ref17_Check_L1 (r8 : AV) (k33 : AHeap → R) : Nat → Int → AHeap → R := iterR (fun _ _ => none) (ref17_Check_L1b r8 k33)
theorem ref17_Check_L1_s (r8 : AV) (k33 : AHeap → R) (m : Nat) : ref17_Check_L1 r8 k33 (m + 1) = ref17_Check_L1b r8 k33 (ref17_Check_L1 r8 k33 m) := rfl
noncomputable def ref17_Check_L0b (v1 : AV) (k52 : AHeap → R) (self : Int → Int → AHeap → R) (t5 : Int) (t6 : Int) (h_56 : AHeap) : R :=
  obind (fldP 9 v1) fun t80 =>
  obind (ldCell h_56 t80) fun v81 =>
  obind (lenL v81) fun t82 =>
  lett (decide (t6 < t82)) fun (t83 : Bool) =>
  ifB t83
  (
    obind (fldP 9 v1) fun t86 =>
    obind (ldCell h_56 t86) fun v87 =>
    obind (idxP 2 v87 t6) fun t89 =>
    obind (fldP 0 t89) fun t90 =>
    obind (ldCell h_56 t90) fun v91 =>
    obind (avInt .i64 v91) fun t91 =>
    lett (decide (t91 < 0)) fun (t92 : Bool) =>
    lett (fun (t101 : Bool) (h_74 : AHeap) =>
      ifB t101
      (
        some (.ret (.int .i64 2), h_74))
      (
        obind (fldP 9 v1) fun t103 =>
        obind (ldCell h_74 t103) fun v104 =>
        obind (idxP 2 v104 t6) fun t106 =>
        obind (fldP 1 t106) fun t107 =>
        obind (ldCell h_74 t107) fun v108 =>
        obind (avStr v108) fun t108 =>
        lett (IntKind.i64.wrap (t5 + (lenS t108))) fun (t110 : Int) =>
        lett (decide (t110 > 3500)) fun (t112 : Bool) =>
        ifB t112
        (
          some (.ret (.int .i64 3), h_74))
        (
          lett (IntKind.i64.wrap (t6 + 1)) fun (t85 : Int) =>
          self t110 t85 h_74))) fun j101 =>
    ifB t92
    (
      j101 true h_56)
    (
      obind (fldP 9 v1) fun t94 =>
      obind (ldCell h_56 t94) fun v95 =>
      obind (idxP 2 v95 t6) fun t97 =>
      obind (fldP 0 t97) fun t98 =>
      obind (ldCell h_56 t98) fun v99 =>
      obind (avInt .i64 v99) fun t99 =>
      lett (decide (t99 > 1125899906842624)) fun (t100 : Bool) =>
      j101 t100 h_56))
  (
    k52 h_56)
noncomputable def ref17_Check_L0 (v1 : AV) (k52 : AHeap → R) : Nat → Int → Int → AHeap → R := iterR (fun _ _ _ => none) (ref17_Check_L0b v1 k52)
theorem ref17_Check_L0_s (v1 : AV) (k52 : AHeap → R) (m : Nat) : ref17_Check_L0 v1 k52 (m + 1) = ref17_Check_L0b v1 k52 (ref17_Check_L0 v1 k52 m) := rfl
noncomputable def ref17_Check (call : CallF) (n : Nat) (t0 : List AV) (h : AHeap) : R :=
  outK (opBox h 30 (some (.agg t0))) fun v1 h_2 =>
  obind (ldRow h_2 22 v1) fun t7 =>
  callN (call 34 [.agg t7] h_2) fun r8 h_6 =>
  obind (fldP 0 v1) fun t9 =>
  obind (ldCell h_6 t9) fun v10 =>
  obind (avInt .u8 v10) fun t10 =>
  lett (decide (t10 < 1)) fun (t11 : Bool) =>
  lett (fun (t16 : Bool) (h_14 : AHeap) =>
    lett (fun (t21 : Bool) (h_17 : AHeap) =>
      lett (fun (t26 : Bool) (h_20 : AHeap) =>
        lett (fun (t31 : Bool) (h_23 : AHeap) =>
          lett (fun (t36 : Bool) (h_26 : AHeap) =>
            ifB t36
            (
              some (.ret (.int .i64 2), h_26))
            (
              lett (fun  (h_34 : AHeap) =>
                obind (fldP 9 v1) fun t66 =>
                obind (ldCell h_34 t66) fun v67 =>
                obind (lenL v67) fun t68 =>
                lett (decide (t68 > 4)) fun (t69 : Bool) =>
                lett (fun (t75 : Bool) (h_41 : AHeap) =>
                  ifB t75
                  (
                    some (.ret (.int .i64 3), h_41))
                  (
                    obind (fldP 12 v1) fun t76 =>
                    obind (ldCell h_41 t76) fun v77 =>
                    obind (avStr v77) fun t77 =>
                    lett (fun  (h_53 : AHeap) =>
                      some (.ret (.int .i64 0), h_53)) fun k52 =>
                    ref17_Check_L0 v1 k52 n (lenS t77) 0 h_41)) fun j75 =>
                ifB t69
                (
                  j75 true h_34)
                (
                  obind (fldP 12 v1) fun t71 =>
                  obind (ldCell h_34 t71) fun v72 =>
                  obind (avStr v72) fun t72 =>
                  lett (decide ((lenS t72) > 3500)) fun (t74 : Bool) =>
                  j75 t74 h_34)) fun k33 =>
              ref17_Check_L1 r8 k33 n 0 h_26)) fun j36 =>
          ifB t31
          (
            j36 true h_23)
          (
            obind (fldP 21 v1) fun t33 =>
            obind (ldCell h_23 t33) fun v34 =>
            obind (avInt .i64 v34) fun t34 =>
            lett (decide (t34 > 3)) fun (t35 : Bool) =>
            j36 t35 h_23)) fun j31 =>
        ifB t26
        (
          j31 true h_20)
        (
          obind (fldP 21 v1) fun t28 =>
          obind (ldCell h_20 t28) fun v29 =>
          obind (avInt .i64 v29) fun t29 =>
          lett (decide (t29 < 0)) fun (t30 : Bool) =>
          j31 t30 h_20)) fun j26 =>
      ifB t21
      (
        j26 true h_17)
      (
        obind (fldP 20 v1) fun t23 =>
        obind (ldCell h_17 t23) fun v24 =>
        obind (avInt .i64 v24) fun t24 =>
        lett (decide (t24 > 999)) fun (t25 : Bool) =>
        j26 t25 h_17)) fun j21 =>
    ifB t16
    (
      j21 true h_14)
    (
      obind (fldP 20 v1) fun t18 =>
      obind (ldCell h_14 t18) fun v19 =>
      obind (avInt .i64 v19) fun t19 =>
      lett (decide (t19 < 0)) fun (t20 : Bool) =>
      j21 t20 h_14)) fun j16 =>
  ifB t11
  (
    j16 true h_6)
  (
    obind (fldP 0 v1) fun t13 =>
    obind (ldCell h_6 t13) fun v14 =>
    obind (avInt .u8 v14) fun t14 =>
    lett (decide (t14 > 14)) fun (t15 : Bool) =>
    j16 t15 h_6)
set_option maxHeartbeats 4000000 in
set_option maxRecDepth 20000 in
theorem ref17_Check_ok {call : CallF} (hc : SaysAll Try.prog call) {n : Nat} {t0 : List AV} {h : AHeap} {rR : ARes} {hR : AHeap} (hF : ref17_Check call n t0 h = some (rR, hR)) : Says Try.prog 16 [.agg t0] h rR hR := by
  unfold ref17_Check at hF
  refine says_of (fn := Try.f16) Try.func16 (c := codeOf Try.f16) (by kernel_rfl) (by kernel_rfl) (fun w0 m0 => ?_)
  refine W.weaken (l' := [(0, .agg t0)]) (Fr.c Fr.n) ?_
  refine W.s (fun K1 n1 e1 q1 p1 => ?_)
  refine W.r ?_
  replace hF := outK_some hF; obtain ⟨v1, h_2, e3, hF⟩ := hF
  refine WL.b (some 1) v1 h_2 e3 ?_
  refine WL.a (some 2) (.int .i64 0) h_2 ?_
  refine WL.n ?_
  refine Go.weaken (l' := [(1, v1)]) (Fr.c Fr.n) ?_
  refine n1 ?_
  refine W.s (fun K4 n4 e4 q4 p4 => ?_)
  refine W.r ?_
  replace hF := obind_some hF; obtain ⟨t7, e5, hF⟩ := hF
  refine WL.b (some 7) (.agg t7) h_2 (load_row (P := Try.prog) (h := h_2) (t := 30) (by kernel_rfl) (by kernel_rfl) e5) ?_
  replace hF := callN_some hF; obtain ⟨r8, h_6, e7, hF⟩ := hF
  refine WL.c (hc.ok w0) (some 8) e7 ?_
  refine WL.a (some 3) r8 h_6 ?_
  refine WL.n ?_
  refine Go.weaken (l' := [(1, v1), (3, r8)]) (Fr.c (Fr.c Fr.n)) ?_
  refine n4 ?_
  refine W.s (fun K8 n8 e8 q8 p8 => ?_)
  refine W.s (fun K9 n9 e9 q9 p9 => ?_)
  refine W.r ?_
  replace hF := obind_some hF; obtain ⟨t9, e10, hF⟩ := hF
  refine WL.b (some 9) t9 h_6 (field_ptr (P := Try.prog) (h := h_6) (s := 30) (f := 0) (by kernel_rfl) e10) ?_
  replace hF := obind_some hF; obtain ⟨v10, e11, hF⟩ := hF
  replace hF := obind_some hF; obtain ⟨t10, c12, hF⟩ := hF
  have c12 := avInt_some c12
  subst c12
  refine WL.b (some 10) (.int .u8 t10) h_6 (load_cell (P := Try.prog) (h := h_6) (t := 5) (by kernel_rfl) e11) ?_
  replace hF := lett_some hF; obtain ⟨t11, e13, hF⟩ := hF
  refine WL.val (d := (some 11)) (v := .bool t11) (h' := h_6) (by kernel_rfl) (by kernel_rfl) (val_of AV.bool e13 (by kernel_rfl)) ?_
  refine WL.a (some 12) (.bool t11) h_6 ?_
  replace hF := lett_some hF; obtain ⟨j16, e15, hF⟩ := hF
  have J16 : ∀ (t16 : Bool) (h_14 : AHeap), j16 t16 h_14 = some (rR, hR) → WL Try.prog w0 m0 (Func.ntmps Try.f16) (Code.ops (Code.p1 (Code.p1 (Code.p2 (Code.p2 (codeOf Try.f16)))))) 8 K9 [(1, v1), (3, r8), (16, .bool t16)] [] h_14 := by
    intro t16 h_14 hF
    rw [e15] at hF
    refine WL.a (some 17) (.bool t16) h_14 ?_
    replace hF := lett_some hF; obtain ⟨j21, e18, hF⟩ := hF
    have J19 : ∀ (t21 : Bool) (h_17 : AHeap), j21 t21 h_17 = some (rR, hR) → WL Try.prog w0 m0 (Func.ntmps Try.f16) (Code.ops (Code.p1 (Code.p1 (Code.p2 (Code.p2 (codeOf Try.f16)))))) 13 K9 [(1, v1), (3, r8), (21, .bool t21)] [] h_17 := by
      intro t21 h_17 hF
      rw [e18] at hF
      refine WL.a (some 22) (.bool t21) h_17 ?_
      replace hF := lett_some hF; obtain ⟨j26, e21, hF⟩ := hF
      have J22 : ∀ (t26 : Bool) (h_20 : AHeap), j26 t26 h_20 = some (rR, hR) → WL Try.prog w0 m0 (Func.ntmps Try.f16) (Code.ops (Code.p1 (Code.p1 (Code.p2 (Code.p2 (codeOf Try.f16)))))) 18 K9 [(1, v1), (3, r8), (26, .bool t26)] [] h_20 := by
        intro t26 h_20 hF
        rw [e21] at hF
        refine WL.a (some 27) (.bool t26) h_20 ?_
        replace hF := lett_some hF; obtain ⟨j31, e24, hF⟩ := hF
        have J25 : ∀ (t31 : Bool) (h_23 : AHeap), j31 t31 h_23 = some (rR, hR) → WL Try.prog w0 m0 (Func.ntmps Try.f16) (Code.ops (Code.p1 (Code.p1 (Code.p2 (Code.p2 (codeOf Try.f16)))))) 23 K9 [(1, v1), (3, r8), (31, .bool t31)] [] h_23 := by
          intro t31 h_23 hF
          rw [e24] at hF
          refine WL.a (some 32) (.bool t31) h_23 ?_
          replace hF := lett_some hF; obtain ⟨j36, e27, hF⟩ := hF
          have J28 : ∀ (t36 : Bool) (h_26 : AHeap), j36 t36 h_26 = some (rR, hR) → WL Try.prog w0 m0 (Func.ntmps Try.f16) (Code.ops (Code.p1 (Code.p1 (Code.p2 (Code.p2 (codeOf Try.f16)))))) 28 K9 [(1, v1), (3, r8), (36, .bool t36)] [] h_26 := by
            intro t36 h_26 hF
            rw [e27] at hF
            refine WL.n ?_
            refine Go.weaken (l' := [(1, v1), (3, r8), (36, .bool t36)]) (Fr.c (Fr.c (Fr.c Fr.n))) ?_
            refine n9 ?_
            cases t36 with
            | true =>
              replace hF := ifB_t hF
              refine W.t ?_
              refine W.s (fun K29 n29 e29 q29 p29 => ?_)
              refine W.r ?_
              refine WL.a (some 2) (.int .i64 2) h_26 ?_
              refine WL.n ?_
              refine Go.weaken (l' := [(2, .int .i64 2)]) (Fr.c Fr.n) ?_
              refine n29 ?_
              refine W.ret (by kernel_rfl) ?_
              refine q8 ?_
              obtain ⟨hF, hF2⟩ := ret_inj hF; subst hF; subst hF2
              exact leave_of (rs := [.tmp 2]) (vs := [.int .i64 2]) (by kernel_rfl) (res_tmp (by kernel_rfl) res_nil) (by kernel_rfl)
            | false =>
              replace hF := ifB_f hF
              refine W.f ?_
              refine W.skip (by kernel_rfl) ?_
              refine n8 ?_
              refine W.s (fun K30 n30 e30 q30 p30 => ?_)
              refine W.s (fun K31 n31 e31 q31 p31 => ?_)
              refine W.r ?_
              refine WL.a (some 4) (.int .i64 0) h_26 ?_
              refine WL.n ?_
              refine Go.weaken (l' := [(1, v1), (3, r8), (4, .int .i64 0)]) (Fr.c (Fr.c (Fr.c Fr.n))) ?_
              refine n31 ?_
              replace hF := lett_some hF; obtain ⟨k33, e33, hF⟩ := hF
              have J33 : ∀  (h_34 : AHeap), k33 h_34 = some (rR, hR) → Go w0 m0 (Func.ntmps Try.f16) (K30 .normal) [(1, v1)] [] h_34 := by
                intro  h_34 hF
                rw [e33] at hF
                refine n30 ?_
                refine W.s (fun K35 n35 e35 q35 p35 => ?_)
                refine W.s (fun K36 n36 e36 q36 p36 => ?_)
                refine W.r ?_
                replace hF := obind_some hF; obtain ⟨t66, e37, hF⟩ := hF
                refine WL.b (some 66) t66 h_34 (field_ptr (P := Try.prog) (h := h_34) (s := 30) (f := 9) (by kernel_rfl) e37) ?_
                replace hF := obind_some hF; obtain ⟨v67, e38, hF⟩ := hF
                refine WL.b (some 67) v67 h_34 (load_cell (P := Try.prog) (h := h_34) (t := 26) (by kernel_rfl) e38) ?_
                replace hF := obind_some hF; obtain ⟨t68, e39, hF⟩ := hF
                refine WL.b (some 68) (.int .i64 t68) h_34 (len_row (P := Try.prog) (h := h_34) (t := 26) (e' := 42) (by kernel_rfl) e39) ?_
                replace hF := lett_some hF; obtain ⟨t69, e40, hF⟩ := hF
                refine WL.val (d := (some 69)) (v := .bool t69) (h' := h_34) (by kernel_rfl) (by kernel_rfl) (val_of AV.bool e40 (by kernel_rfl)) ?_
                refine WL.a (some 70) (.bool t69) h_34 ?_
                replace hF := lett_some hF; obtain ⟨j75, e42, hF⟩ := hF
                have J43 : ∀ (t75 : Bool) (h_41 : AHeap), j75 t75 h_41 = some (rR, hR) → WL Try.prog w0 m0 (Func.ntmps Try.f16) (Code.ops (Code.p1 (Code.p1 (Code.p2 (Code.p2 (Code.p2 (Code.p2 (codeOf Try.f16)))))))) 10 K36 [(1, v1), (75, .bool t75)] [] h_41 := by
                  intro t75 h_41 hF
                  rw [e42] at hF
                  refine WL.n ?_
                  refine Go.weaken (l' := [(1, v1), (75, .bool t75)]) (Fr.c (Fr.c Fr.n)) ?_
                  refine n36 ?_
                  cases t75 with
                  | true =>
                    replace hF := ifB_t hF
                    refine W.t ?_
                    refine W.s (fun K44 n44 e44 q44 p44 => ?_)
                    refine W.r ?_
                    refine WL.a (some 2) (.int .i64 3) h_41 ?_
                    refine WL.n ?_
                    refine Go.weaken (l' := [(2, .int .i64 3)]) (Fr.c Fr.n) ?_
                    refine n44 ?_
                    refine W.ret (by kernel_rfl) ?_
                    refine q35 ?_
                    obtain ⟨hF, hF2⟩ := ret_inj hF; subst hF; subst hF2
                    exact leave_of (rs := [.tmp 2]) (vs := [.int .i64 3]) (by kernel_rfl) (res_tmp (by kernel_rfl) res_nil) (by kernel_rfl)
                  | false =>
                    replace hF := ifB_f hF
                    refine W.f ?_
                    refine W.skip (by kernel_rfl) ?_
                    refine n35 ?_
                    refine W.s (fun K45 n45 e45 q45 p45 => ?_)
                    refine W.r ?_
                    replace hF := obind_some hF; obtain ⟨t76, e46, hF⟩ := hF
                    refine WL.b (some 76) t76 h_41 (field_ptr (P := Try.prog) (h := h_41) (s := 30) (f := 12) (by kernel_rfl) e46) ?_
                    replace hF := obind_some hF; obtain ⟨v77, e47, hF⟩ := hF
                    replace hF := obind_some hF; obtain ⟨t77, c48, hF⟩ := hF
                    have c48 := avStr_some c48
                    subst c48
                    refine WL.b (some 77) (strA t77) h_41 (load_cell (P := Try.prog) (h := h_41) (t := 9) (by kernel_rfl) e47) ?_
                    refine WL.a (some 78) (.int .i64 (lenS t77)) h_41 ?_
                    refine WL.a (some 5) (.int .i64 (lenS t77)) h_41 ?_
                    refine WL.n ?_
                    refine Go.weaken (l' := [(1, v1), (5, .int .i64 (lenS t77))]) (Fr.c (Fr.c Fr.n)) ?_
                    refine n45 ?_
                    refine W.s (fun K49 n49 e49 q49 p49 => ?_)
                    refine W.s (fun K50 n50 e50 q50 p50 => ?_)
                    refine W.r ?_
                    refine WL.a (some 6) (.int .i64 0) h_41 ?_
                    refine WL.n ?_
                    refine Go.weaken (l' := [(1, v1), (5, .int .i64 (lenS t77)), (6, .int .i64 0)]) (Fr.c (Fr.c (Fr.c Fr.n))) ?_
                    refine n50 ?_
                    replace hF := lett_some hF; obtain ⟨k52, e52, hF⟩ := hF
                    have J52 : ∀  (h_53 : AHeap), k52 h_53 = some (rR, hR) → Go w0 m0 (Func.ntmps Try.f16) (K49 .normal) [] [] h_53 := by
                      intro  h_53 hF
                      rw [e52] at hF
                      refine n49 ?_
                      refine W.s (fun K54 n54 e54 q54 p54 => ?_)
                      refine W.r ?_
                      refine WL.a (some 2) (.int .i64 0) h_53 ?_
                      refine WL.n ?_
                      refine Go.weaken (l' := [(2, .int .i64 0)]) (Fr.c Fr.n) ?_
                      refine n54 ?_
                      refine W.ret (by kernel_rfl) ?_
                      obtain ⟨hF, hF2⟩ := ret_inj hF; subst hF; subst hF2
                      exact leave_of (rs := [.tmp 2]) (vs := [.int .i64 0]) (by kernel_rfl) (res_tmp (by kernel_rfl) res_nil) (by kernel_rfl)
                    refine W.blockK (by kernel_rfl) (fun K51 n51 s51 o51 q51 p51 => ?_)
                    refine W.loopK (by kernel_rfl) (fun I55 K55 b55 n55 e55 q55 p55 => ?_)
                    have L55 : ∀ (m : Nat) (t5 : Int) (t6 : Int) (h_56 : AHeap), ref17_Check_L0 v1 k52 m t5 t6 h_56 = some (rR, hR) → Go w0 m0 (Func.ntmps Try.f16) I55 [(1, v1), (5, .int .i64 t5), (6, .int .i64 t6)] [] h_56 := by
                      intro m
                      induction m with
                      | zero => intro t5 t6 h_56 hF; cases hF
                      | succ m ih55 =>
                        intro t5 t6 h_56 hF
                        rw [ref17_Check_L0_s] at hF; unfold ref17_Check_L0b at hF
                        refine b55 ?_
                        refine W.s (fun K57 n57 e57 q57 p57 => ?_)
                        refine W.s (fun K58 n58 e58 q58 p58 => ?_)
                        refine W.r ?_
                        refine WL.a (some 79) (.int .i64 t6) h_56 ?_
                        replace hF := obind_some hF; obtain ⟨t80, e59, hF⟩ := hF
                        refine WL.b (some 80) t80 h_56 (field_ptr (P := Try.prog) (h := h_56) (s := 30) (f := 9) (by kernel_rfl) e59) ?_
                        replace hF := obind_some hF; obtain ⟨v81, e60, hF⟩ := hF
                        refine WL.b (some 81) v81 h_56 (load_cell (P := Try.prog) (h := h_56) (t := 26) (by kernel_rfl) e60) ?_
                        replace hF := obind_some hF; obtain ⟨t82, e61, hF⟩ := hF
                        refine WL.b (some 82) (.int .i64 t82) h_56 (len_row (P := Try.prog) (h := h_56) (t := 26) (e' := 42) (by kernel_rfl) e61) ?_
                        replace hF := lett_some hF; obtain ⟨t83, e62, hF⟩ := hF
                        refine WL.val (d := (some 83)) (v := .bool t83) (h' := h_56) (by kernel_rfl) (by kernel_rfl) (val_of AV.bool e62 (by kernel_rfl)) ?_
                        refine WL.n ?_
                        refine Go.weaken (l' := [(1, v1), (5, .int .i64 t5), (6, .int .i64 t6), (83, .bool t83)]) (Fr.c (Fr.c (Fr.c (Fr.c Fr.n)))) ?_
                        refine n58 ?_
                        cases t83 with
                        | true =>
                          replace hF := ifB_t hF
                          refine W.t ?_
                          refine W.skip (by kernel_rfl) ?_
                          refine n57 ?_
                          refine W.s (fun K63 n63 e63 q63 p63 => ?_)
                          refine W.blockK (by kernel_rfl) (fun K64 n64 s64 o64 q64 p64 => ?_)
                          refine W.s (fun K65 n65 e65 q65 p65 => ?_)
                          refine W.s (fun K66 n66 e66 q66 p66 => ?_)
                          refine W.r ?_
                          replace hF := obind_some hF; obtain ⟨t86, e67, hF⟩ := hF
                          refine WL.b (some 86) t86 h_56 (field_ptr (P := Try.prog) (h := h_56) (s := 30) (f := 9) (by kernel_rfl) e67) ?_
                          replace hF := obind_some hF; obtain ⟨v87, e68, hF⟩ := hF
                          refine WL.b (some 87) v87 h_56 (load_cell (P := Try.prog) (h := h_56) (t := 26) (by kernel_rfl) e68) ?_
                          refine WL.a (some 88) (.int .i64 t6) h_56 ?_
                          replace hF := obind_some hF; obtain ⟨t89, e69, hF⟩ := hF
                          refine WL.b (some 89) t89 h_56 (index_row (P := Try.prog) (h := h_56) (t := 26) (e' := 42) (k := .i64) (by kernel_rfl) (by kernel_rfl) (by kernel_rfl) e69) ?_
                          replace hF := obind_some hF; obtain ⟨t90, e70, hF⟩ := hF
                          refine WL.b (some 90) t90 h_56 (field_ptr (P := Try.prog) (h := h_56) (s := 42) (f := 0) (by kernel_rfl) e70) ?_
                          replace hF := obind_some hF; obtain ⟨v91, e71, hF⟩ := hF
                          replace hF := obind_some hF; obtain ⟨t91, c72, hF⟩ := hF
                          have c72 := avInt_some c72
                          subst c72
                          refine WL.b (some 91) (.int .i64 t91) h_56 (load_cell (P := Try.prog) (h := h_56) (t := 3) (by kernel_rfl) e71) ?_
                          replace hF := lett_some hF; obtain ⟨t92, e73, hF⟩ := hF
                          refine WL.val (d := (some 92)) (v := .bool t92) (h' := h_56) (by kernel_rfl) (by kernel_rfl) (val_of AV.bool e73 (by kernel_rfl)) ?_
                          refine WL.a (some 93) (.bool t92) h_56 ?_
                          replace hF := lett_some hF; obtain ⟨j101, e75, hF⟩ := hF
                          have J76 : ∀ (t101 : Bool) (h_74 : AHeap), j101 t101 h_74 = some (rR, hR) → WL Try.prog w0 m0 (Func.ntmps Try.f16) (Code.ops (Code.p1 (Code.p1 (Code.p1 (Code.p1 (Code.p2 (Code.p1 (Code.p1 (Code.p2 (Code.p1 (Code.p2 (Code.p2 (Code.p2 (Code.p2 (Code.p2 (Code.p2 (codeOf Try.f16))))))))))))))))) 16 K66 [(1, v1), (5, .int .i64 t5), (6, .int .i64 t6), (101, .bool t101)] [] h_74 := by
                            intro t101 h_74 hF
                            rw [e75] at hF
                            refine WL.n ?_
                            refine Go.weaken (l' := [(1, v1), (5, .int .i64 t5), (6, .int .i64 t6), (101, .bool t101)]) (Fr.c (Fr.c (Fr.c (Fr.c Fr.n)))) ?_
                            refine n66 ?_
                            cases t101 with
                            | true =>
                              replace hF := ifB_t hF
                              refine W.t ?_
                              refine W.s (fun K77 n77 e77 q77 p77 => ?_)
                              refine W.r ?_
                              refine WL.a (some 2) (.int .i64 2) h_74 ?_
                              refine WL.n ?_
                              refine Go.weaken (l' := [(2, .int .i64 2)]) (Fr.c Fr.n) ?_
                              refine n77 ?_
                              refine W.ret (by kernel_rfl) ?_
                              refine q65 ?_
                              refine q64 ?_
                              refine q63 ?_
                              refine q55 ?_
                              refine q51 ?_
                              refine q49 ?_
                              obtain ⟨hF, hF2⟩ := ret_inj hF; subst hF; subst hF2
                              exact leave_of (rs := [.tmp 2]) (vs := [.int .i64 2]) (by kernel_rfl) (res_tmp (by kernel_rfl) res_nil) (by kernel_rfl)
                            | false =>
                              replace hF := ifB_f hF
                              refine W.f ?_
                              refine W.skip (by kernel_rfl) ?_
                              refine n65 ?_
                              refine W.s (fun K78 n78 e78 q78 p78 => ?_)
                              refine W.r ?_
                              refine WL.a (some 102) (.int .i64 t5) h_74 ?_
                              replace hF := obind_some hF; obtain ⟨t103, e79, hF⟩ := hF
                              refine WL.b (some 103) t103 h_74 (field_ptr (P := Try.prog) (h := h_74) (s := 30) (f := 9) (by kernel_rfl) e79) ?_
                              replace hF := obind_some hF; obtain ⟨v104, e80, hF⟩ := hF
                              refine WL.b (some 104) v104 h_74 (load_cell (P := Try.prog) (h := h_74) (t := 26) (by kernel_rfl) e80) ?_
                              refine WL.a (some 105) (.int .i64 t6) h_74 ?_
                              replace hF := obind_some hF; obtain ⟨t106, e81, hF⟩ := hF
                              refine WL.b (some 106) t106 h_74 (index_row (P := Try.prog) (h := h_74) (t := 26) (e' := 42) (k := .i64) (by kernel_rfl) (by kernel_rfl) (by kernel_rfl) e81) ?_
                              replace hF := obind_some hF; obtain ⟨t107, e82, hF⟩ := hF
                              refine WL.b (some 107) t107 h_74 (field_ptr (P := Try.prog) (h := h_74) (s := 42) (f := 1) (by kernel_rfl) e82) ?_
                              replace hF := obind_some hF; obtain ⟨v108, e83, hF⟩ := hF
                              replace hF := obind_some hF; obtain ⟨t108, c84, hF⟩ := hF
                              have c84 := avStr_some c84
                              subst c84
                              refine WL.b (some 108) (strA t108) h_74 (load_cell (P := Try.prog) (h := h_74) (t := 9) (by kernel_rfl) e83) ?_
                              refine WL.a (some 109) (.int .i64 (lenS t108)) h_74 ?_
                              replace hF := lett_some hF; obtain ⟨t110, e85, hF⟩ := hF
                              refine WL.val (d := (some 110)) (v := .int .i64 t110) (h' := h_74) (by kernel_rfl) (by kernel_rfl) (val_of (AV.int .i64) e85 (by kernel_rfl)) ?_
                              refine WL.a (some 5) (.int .i64 t110) h_74 ?_
                              refine WL.n ?_
                              refine Go.weaken (l' := [(1, v1), (5, .int .i64 t110), (6, .int .i64 t6)]) (Fr.c (Fr.c (Fr.c Fr.n))) ?_
                              refine n78 ?_
                              refine W.s (fun K86 n86 e86 q86 p86 => ?_)
                              refine W.r ?_
                              refine WL.a (some 111) (.int .i64 t110) h_74 ?_
                              replace hF := lett_some hF; obtain ⟨t112, e87, hF⟩ := hF
                              refine WL.val (d := (some 112)) (v := .bool t112) (h' := h_74) (by kernel_rfl) (by kernel_rfl) (val_of AV.bool e87 (by kernel_rfl)) ?_
                              refine WL.n ?_
                              refine Go.weaken (l' := [(1, v1), (5, .int .i64 t110), (6, .int .i64 t6), (112, .bool t112)]) (Fr.c (Fr.c (Fr.c (Fr.c Fr.n)))) ?_
                              refine n86 ?_
                              cases t112 with
                              | true =>
                                replace hF := ifB_t hF
                                refine W.t ?_
                                refine W.s (fun K88 n88 e88 q88 p88 => ?_)
                                refine W.r ?_
                                refine WL.a (some 2) (.int .i64 3) h_74 ?_
                                refine WL.n ?_
                                refine Go.weaken (l' := [(2, .int .i64 3)]) (Fr.c Fr.n) ?_
                                refine n88 ?_
                                refine W.ret (by kernel_rfl) ?_
                                refine q64 ?_
                                refine q63 ?_
                                refine q55 ?_
                                refine q51 ?_
                                refine q49 ?_
                                obtain ⟨hF, hF2⟩ := ret_inj hF; subst hF; subst hF2
                                exact leave_of (rs := [.tmp 2]) (vs := [.int .i64 3]) (by kernel_rfl) (res_tmp (by kernel_rfl) res_nil) (by kernel_rfl)
                              | false =>
                                replace hF := ifB_f hF
                                refine W.f ?_
                                refine W.skip (by kernel_rfl) ?_
                                refine n64 ?_
                                refine n63 ?_
                                refine W.r ?_
                                refine WL.a (some 84) (.int .i64 t6) h_74 ?_
                                replace hF := lett_some hF; obtain ⟨t85, e89, hF⟩ := hF
                                refine WL.val (d := (some 85)) (v := .int .i64 t85) (h' := h_74) (by kernel_rfl) (by kernel_rfl) (val_of (AV.int .i64) e89 (by kernel_rfl)) ?_
                                refine WL.a (some 6) (.int .i64 t85) h_74 ?_
                                refine WL.n ?_
                                refine Go.weaken (l' := [(1, v1), (5, .int .i64 t110), (6, .int .i64 t85)]) (Fr.c (Fr.c (Fr.c Fr.n))) ?_
                                refine n55 ?_
                                exact Go.weaken (Fr.c (Fr.c (Fr.c Fr.n))) (ih55 _ _ _ hF)
                          cases t92 with
                          | true =>
                            replace hF := ifB_t hF
                            refine WL.o (some 94) ?_
                            refine WL.o (some 95) ?_
                            refine WL.o (some 96) ?_
                            refine WL.o (some 97) ?_
                            refine WL.o (some 98) ?_
                            refine WL.o (some 99) ?_
                            refine WL.o (some 100) ?_
                            refine WL.a (some 101) (.bool true) h_56 ?_
                            exact WL.weaken (Fr.c (Fr.c (Fr.c (Fr.c Fr.n)))) (J76 _ _ hF)
                          | false =>
                            replace hF := ifB_f hF
                            replace hF := obind_some hF; obtain ⟨t94, e90, hF⟩ := hF
                            refine WL.b (some 94) t94 h_56 (field_ptr (P := Try.prog) (h := h_56) (s := 30) (f := 9) (by kernel_rfl) e90) ?_
                            replace hF := obind_some hF; obtain ⟨v95, e91, hF⟩ := hF
                            refine WL.b (some 95) v95 h_56 (load_cell (P := Try.prog) (h := h_56) (t := 26) (by kernel_rfl) e91) ?_
                            refine WL.a (some 96) (.int .i64 t6) h_56 ?_
                            replace hF := obind_some hF; obtain ⟨t97, e92, hF⟩ := hF
                            refine WL.b (some 97) t97 h_56 (index_row (P := Try.prog) (h := h_56) (t := 26) (e' := 42) (k := .i64) (by kernel_rfl) (by kernel_rfl) (by kernel_rfl) e92) ?_
                            replace hF := obind_some hF; obtain ⟨t98, e93, hF⟩ := hF
                            refine WL.b (some 98) t98 h_56 (field_ptr (P := Try.prog) (h := h_56) (s := 42) (f := 0) (by kernel_rfl) e93) ?_
                            replace hF := obind_some hF; obtain ⟨v99, e94, hF⟩ := hF
                            replace hF := obind_some hF; obtain ⟨t99, c95, hF⟩ := hF
                            have c95 := avInt_some c95
                            subst c95
                            refine WL.b (some 99) (.int .i64 t99) h_56 (load_cell (P := Try.prog) (h := h_56) (t := 3) (by kernel_rfl) e94) ?_
                            replace hF := lett_some hF; obtain ⟨t100, e96, hF⟩ := hF
                            refine WL.val (d := (some 100)) (v := .bool t100) (h' := h_56) (by kernel_rfl) (by kernel_rfl) (val_of AV.bool e96 (by kernel_rfl)) ?_
                            refine WL.a (some 101) (.bool t100) h_56 ?_
                            exact WL.weaken (Fr.c (Fr.c (Fr.c (Fr.c Fr.n)))) (J76 _ _ hF)
                        | false =>
                          replace hF := ifB_f hF
                          refine W.f ?_
                          refine W.exit (by kernel_rfl) ?_
                          refine e57 ?_
                          refine e55 ?_
                          refine s51 (by kernel_rfl) ?_
                          exact Go.weaken Fr.n (J52 _ hF)
                    exact Go.weaken (Fr.c (Fr.c (Fr.c Fr.n))) (L55 _ _ _ _ hF)
                cases t69 with
                | true =>
                  replace hF := ifB_t hF
                  refine WL.o (some 71) ?_
                  refine WL.o (some 72) ?_
                  refine WL.o (some 73) ?_
                  refine WL.o (some 74) ?_
                  refine WL.a (some 75) (.bool true) h_34 ?_
                  exact WL.weaken (Fr.c (Fr.c Fr.n)) (J43 _ _ hF)
                | false =>
                  replace hF := ifB_f hF
                  replace hF := obind_some hF; obtain ⟨t71, e97, hF⟩ := hF
                  refine WL.b (some 71) t71 h_34 (field_ptr (P := Try.prog) (h := h_34) (s := 30) (f := 12) (by kernel_rfl) e97) ?_
                  replace hF := obind_some hF; obtain ⟨v72, e98, hF⟩ := hF
                  replace hF := obind_some hF; obtain ⟨t72, c99, hF⟩ := hF
                  have c99 := avStr_some c99
                  subst c99
                  refine WL.b (some 72) (strA t72) h_34 (load_cell (P := Try.prog) (h := h_34) (t := 9) (by kernel_rfl) e98) ?_
                  refine WL.a (some 73) (.int .i64 (lenS t72)) h_34 ?_
                  replace hF := lett_some hF; obtain ⟨t74, e100, hF⟩ := hF
                  refine WL.val (d := (some 74)) (v := .bool t74) (h' := h_34) (by kernel_rfl) (by kernel_rfl) (val_of AV.bool e100 (by kernel_rfl)) ?_
                  refine WL.a (some 75) (.bool t74) h_34 ?_
                  exact WL.weaken (Fr.c (Fr.c Fr.n)) (J43 _ _ hF)
              refine W.blockK (by kernel_rfl) (fun K32 n32 s32 o32 q32 p32 => ?_)
              refine W.loopK (by kernel_rfl) (fun I101 K101 b101 n101 e101 q101 p101 => ?_)
              have L101 : ∀ (m : Nat) (t4 : Int) (h_102 : AHeap), ref17_Check_L1 r8 k33 m t4 h_102 = some (rR, hR) → Go w0 m0 (Func.ntmps Try.f16) I101 [(1, v1), (3, r8), (4, .int .i64 t4)] [] h_102 := by
                intro m
                induction m with
                | zero => intro t4 h_102 hF; cases hF
                | succ m ih101 =>
                  intro t4 h_102 hF
                  rw [ref17_Check_L1_s] at hF; unfold ref17_Check_L1b at hF
                  refine b101 ?_
                  refine W.s (fun K103 n103 e103 q103 p103 => ?_)
                  refine W.s (fun K104 n104 e104 q104 p104 => ?_)
                  refine W.r ?_
                  refine WL.a (some 37) (.int .i64 t4) h_102 ?_
                  refine WL.a (some 38) r8 h_102 ?_
                  replace hF := obind_some hF; obtain ⟨t39, e105, hF⟩ := hF
                  refine WL.b (some 39) (.int .i64 t39) h_102 (len_row (P := Try.prog) (h := h_102) (t := 79) (e' := 3) (by kernel_rfl) e105) ?_
                  replace hF := lett_some hF; obtain ⟨t40, e106, hF⟩ := hF
                  refine WL.val (d := (some 40)) (v := .bool t40) (h' := h_102) (by kernel_rfl) (by kernel_rfl) (val_of AV.bool e106 (by kernel_rfl)) ?_
                  refine WL.n ?_
                  refine Go.weaken (l' := [(1, v1), (3, r8), (4, .int .i64 t4), (40, .bool t40)]) (Fr.c (Fr.c (Fr.c (Fr.c Fr.n)))) ?_
                  refine n104 ?_
                  cases t40 with
                  | true =>
                    replace hF := ifB_t hF
                    refine W.t ?_
                    refine W.skip (by kernel_rfl) ?_
                    refine n103 ?_
                    refine W.s (fun K107 n107 e107 q107 p107 => ?_)
                    refine W.blockK (by kernel_rfl) (fun K108 n108 s108 o108 q108 p108 => ?_)
                    refine W.s (fun K109 n109 e109 q109 p109 => ?_)
                    refine W.r ?_
                    refine WL.a (some 43) r8 h_102 ?_
                    refine WL.a (some 44) (.int .i64 t4) h_102 ?_
                    replace hF := obind_some hF; obtain ⟨t45, e110, hF⟩ := hF
                    refine WL.b (some 45) t45 h_102 (index_row (P := Try.prog) (h := h_102) (t := 79) (e' := 3) (k := .i64) (by kernel_rfl) (by kernel_rfl) (by kernel_rfl) e110) ?_
                    replace hF := obind_some hF; obtain ⟨v46, e111, hF⟩ := hF
                    replace hF := obind_some hF; obtain ⟨t46, c112, hF⟩ := hF
                    have c112 := avInt_some c112
                    subst c112
                    refine WL.b (some 46) (.int .i64 t46) h_102 (load_cell (P := Try.prog) (h := h_102) (t := 3) (by kernel_rfl) e111) ?_
                    replace hF := lett_some hF; obtain ⟨t47, e113, hF⟩ := hF
                    refine WL.val (d := (some 47)) (v := .bool t47) (h' := h_102) (by kernel_rfl) (by kernel_rfl) (val_of AV.bool e113 (by kernel_rfl)) ?_
                    refine WL.a (some 48) (.bool t47) h_102 ?_
                    replace hF := lett_some hF; obtain ⟨j54, e115, hF⟩ := hF
                    have J116 : ∀ (t54 : Bool) (h_114 : AHeap), j54 t54 h_114 = some (rR, hR) → WL Try.prog w0 m0 (Func.ntmps Try.f16) (Code.ops (Code.p1 (Code.p1 (Code.p1 (Code.p2 (Code.p1 (Code.p1 (Code.p2 (Code.p1 (Code.p2 (Code.p2 (Code.p2 (codeOf Try.f16))))))))))))) 12 K109 [(1, v1), (3, r8), (4, .int .i64 t4), (54, .bool t54)] [] h_114 := by
                      intro t54 h_114 hF
                      rw [e115] at hF
                      refine WL.a (some 55) (.bool t54) h_114 ?_
                      replace hF := lett_some hF; obtain ⟨j65, e118, hF⟩ := hF
                      have J119 : ∀ (t65 : Bool) (h_117 : AHeap), j65 t65 h_117 = some (rR, hR) → WL Try.prog w0 m0 (Func.ntmps Try.f16) (Code.ops (Code.p1 (Code.p1 (Code.p1 (Code.p2 (Code.p1 (Code.p1 (Code.p2 (Code.p1 (Code.p2 (Code.p2 (Code.p2 (codeOf Try.f16))))))))))))) 23 K109 [(1, v1), (3, r8), (4, .int .i64 t4), (65, .bool t65)] [] h_117 := by
                        intro t65 h_117 hF
                        rw [e118] at hF
                        refine WL.n ?_
                        refine Go.weaken (l' := [(1, v1), (3, r8), (4, .int .i64 t4), (65, .bool t65)]) (Fr.c (Fr.c (Fr.c (Fr.c Fr.n)))) ?_
                        refine n109 ?_
                        cases t65 with
                        | true =>
                          replace hF := ifB_t hF
                          refine W.t ?_
                          refine W.s (fun K120 n120 e120 q120 p120 => ?_)
                          refine W.r ?_
                          refine WL.a (some 2) (.int .i64 2) h_117 ?_
                          refine WL.n ?_
                          refine Go.weaken (l' := [(2, .int .i64 2)]) (Fr.c Fr.n) ?_
                          refine n120 ?_
                          refine W.ret (by kernel_rfl) ?_
                          refine q108 ?_
                          refine q107 ?_
                          refine q101 ?_
                          refine q32 ?_
                          refine q30 ?_
                          obtain ⟨hF, hF2⟩ := ret_inj hF; subst hF; subst hF2
                          exact leave_of (rs := [.tmp 2]) (vs := [.int .i64 2]) (by kernel_rfl) (res_tmp (by kernel_rfl) res_nil) (by kernel_rfl)
                        | false =>
                          replace hF := ifB_f hF
                          refine W.f ?_
                          refine W.skip (by kernel_rfl) ?_
                          refine n108 ?_
                          refine n107 ?_
                          refine W.r ?_
                          refine WL.a (some 41) (.int .i64 t4) h_117 ?_
                          replace hF := lett_some hF; obtain ⟨t42, e121, hF⟩ := hF
                          refine WL.val (d := (some 42)) (v := .int .i64 t42) (h' := h_117) (by kernel_rfl) (by kernel_rfl) (val_of (AV.int .i64) e121 (by kernel_rfl)) ?_
                          refine WL.a (some 4) (.int .i64 t42) h_117 ?_
                          refine WL.n ?_
                          refine Go.weaken (l' := [(1, v1), (3, r8), (4, .int .i64 t42)]) (Fr.c (Fr.c (Fr.c Fr.n))) ?_
                          refine n101 ?_
                          exact Go.weaken (Fr.c (Fr.c (Fr.c Fr.n))) (ih101 _ _ hF)
                      cases t54 with
                      | true =>
                        replace hF := ifB_t hF
                        refine WL.o (some 56) ?_
                        refine WL.o (some 57) ?_
                        refine WL.o (some 58) ?_
                        refine WL.o (some 59) ?_
                        refine WL.o (some 60) ?_
                        refine WL.o (some 61) ?_
                        refine WL.o (some 62) ?_
                        refine WL.o (some 63) ?_
                        refine WL.o (some 64) ?_
                        refine WL.a (some 65) (.bool true) h_114 ?_
                        exact WL.weaken (Fr.c (Fr.c (Fr.c (Fr.c Fr.n)))) (J119 _ _ hF)
                      | false =>
                        replace hF := ifB_f hF
                        refine WL.a (some 56) (.int .i64 t4) h_114 ?_
                        replace hF := lett_some hF; obtain ⟨t57, e122, hF⟩ := hF
                        refine WL.val (d := (some 57)) (v := .bool t57) (h' := h_114) (by kernel_rfl) (by kernel_rfl) (val_of AV.bool e122 (by kernel_rfl)) ?_
                        refine WL.a (some 58) (.bool t57) h_114 ?_
                        replace hF := lett_some hF; obtain ⟨j64, e124, hF⟩ := hF
                        have J125 : ∀ (t64 : Bool) (h_123 : AHeap), j64 t64 h_123 = some (rR, hR) → WL Try.prog w0 m0 (Func.ntmps Try.f16) (Code.ops (Code.p1 (Code.p1 (Code.p1 (Code.p2 (Code.p1 (Code.p1 (Code.p2 (Code.p1 (Code.p2 (Code.p2 (Code.p2 (codeOf Try.f16))))))))))))) 22 K109 [(1, v1), (3, r8), (4, .int .i64 t4), (55, .bool false), (64, .bool t64)] [] h_123 := by
                          intro t64 h_123 hF
                          rw [e124] at hF
                          refine WL.a (some 65) (.bool t64) h_123 ?_
                          exact WL.weaken (Fr.c (Fr.c (Fr.c (Fr.c Fr.n)))) (J119 _ _ hF)
                        cases t57 with
                        | true =>
                          replace hF := ifB_t hF
                          refine WL.a (some 59) r8 h_114 ?_
                          refine WL.a (some 60) (.int .i64 t4) h_114 ?_
                          replace hF := obind_some hF; obtain ⟨t61, e126, hF⟩ := hF
                          refine WL.b (some 61) t61 h_114 (index_row (P := Try.prog) (h := h_114) (t := 79) (e' := 3) (k := .i64) (by kernel_rfl) (by kernel_rfl) (by kernel_rfl) e126) ?_
                          replace hF := obind_some hF; obtain ⟨v62, e127, hF⟩ := hF
                          replace hF := obind_some hF; obtain ⟨t62, c128, hF⟩ := hF
                          have c128 := avInt_some c128
                          subst c128
                          refine WL.b (some 62) (.int .i64 t62) h_114 (load_cell (P := Try.prog) (h := h_114) (t := 3) (by kernel_rfl) e127) ?_
                          replace hF := lett_some hF; obtain ⟨t63, e129, hF⟩ := hF
                          refine WL.val (d := (some 63)) (v := .bool t63) (h' := h_114) (by kernel_rfl) (by kernel_rfl) (val_of AV.bool e129 (by kernel_rfl)) ?_
                          refine WL.a (some 64) (.bool t63) h_114 ?_
                          exact WL.weaken (Fr.c (Fr.c (Fr.c (Fr.c (Fr.c Fr.n))))) (J125 _ _ hF)
                        | false =>
                          replace hF := ifB_f hF
                          refine WL.o (some 59) ?_
                          refine WL.o (some 60) ?_
                          refine WL.o (some 61) ?_
                          refine WL.o (some 62) ?_
                          refine WL.o (some 63) ?_
                          refine WL.a (some 64) (.bool false) h_114 ?_
                          exact WL.weaken (Fr.c (Fr.c (Fr.c (Fr.c (Fr.c Fr.n))))) (J125 _ _ hF)
                    cases t47 with
                    | true =>
                      replace hF := ifB_t hF
                      refine WL.o (some 49) ?_
                      refine WL.o (some 50) ?_
                      refine WL.o (some 51) ?_
                      refine WL.o (some 52) ?_
                      refine WL.o (some 53) ?_
                      refine WL.a (some 54) (.bool true) h_102 ?_
                      exact WL.weaken (Fr.c (Fr.c (Fr.c (Fr.c Fr.n)))) (J116 _ _ hF)
                    | false =>
                      replace hF := ifB_f hF
                      refine WL.a (some 49) r8 h_102 ?_
                      refine WL.a (some 50) (.int .i64 t4) h_102 ?_
                      replace hF := obind_some hF; obtain ⟨t51, e130, hF⟩ := hF
                      refine WL.b (some 51) t51 h_102 (index_row (P := Try.prog) (h := h_102) (t := 79) (e' := 3) (k := .i64) (by kernel_rfl) (by kernel_rfl) (by kernel_rfl) e130) ?_
                      replace hF := obind_some hF; obtain ⟨v52, e131, hF⟩ := hF
                      replace hF := obind_some hF; obtain ⟨t52, c132, hF⟩ := hF
                      have c132 := avInt_some c132
                      subst c132
                      refine WL.b (some 52) (.int .i64 t52) h_102 (load_cell (P := Try.prog) (h := h_102) (t := 3) (by kernel_rfl) e131) ?_
                      replace hF := lett_some hF; obtain ⟨t53, e133, hF⟩ := hF
                      refine WL.val (d := (some 53)) (v := .bool t53) (h' := h_102) (by kernel_rfl) (by kernel_rfl) (val_of AV.bool e133 (by kernel_rfl)) ?_
                      refine WL.a (some 54) (.bool t53) h_102 ?_
                      exact WL.weaken (Fr.c (Fr.c (Fr.c (Fr.c Fr.n)))) (J116 _ _ hF)
                  | false =>
                    replace hF := ifB_f hF
                    refine W.f ?_
                    refine W.exit (by kernel_rfl) ?_
                    refine e103 ?_
                    refine e101 ?_
                    refine s32 (by kernel_rfl) ?_
                    exact Go.weaken (Fr.c Fr.n) (J33 _ hF)
              exact Go.weaken (Fr.c (Fr.c (Fr.c Fr.n))) (L101 _ _ _ hF)
          cases t31 with
          | true =>
            replace hF := ifB_t hF
            refine WL.o (some 33) ?_
            refine WL.o (some 34) ?_
            refine WL.o (some 35) ?_
            refine WL.a (some 36) (.bool true) h_23 ?_
            exact WL.weaken (Fr.c (Fr.c (Fr.c Fr.n))) (J28 _ _ hF)
          | false =>
            replace hF := ifB_f hF
            replace hF := obind_some hF; obtain ⟨t33, e134, hF⟩ := hF
            refine WL.b (some 33) t33 h_23 (field_ptr (P := Try.prog) (h := h_23) (s := 30) (f := 20) (by kernel_rfl) e134) ?_
            replace hF := obind_some hF; obtain ⟨v34, e135, hF⟩ := hF
            replace hF := obind_some hF; obtain ⟨t34, c136, hF⟩ := hF
            have c136 := avInt_some c136
            subst c136
            refine WL.b (some 34) (.int .i64 t34) h_23 (load_cell (P := Try.prog) (h := h_23) (t := 3) (by kernel_rfl) e135) ?_
            replace hF := lett_some hF; obtain ⟨t35, e137, hF⟩ := hF
            refine WL.val (d := (some 35)) (v := .bool t35) (h' := h_23) (by kernel_rfl) (by kernel_rfl) (val_of AV.bool e137 (by kernel_rfl)) ?_
            refine WL.a (some 36) (.bool t35) h_23 ?_
            exact WL.weaken (Fr.c (Fr.c (Fr.c Fr.n))) (J28 _ _ hF)
        cases t26 with
        | true =>
          replace hF := ifB_t hF
          refine WL.o (some 28) ?_
          refine WL.o (some 29) ?_
          refine WL.o (some 30) ?_
          refine WL.a (some 31) (.bool true) h_20 ?_
          exact WL.weaken (Fr.c (Fr.c (Fr.c Fr.n))) (J25 _ _ hF)
        | false =>
          replace hF := ifB_f hF
          replace hF := obind_some hF; obtain ⟨t28, e138, hF⟩ := hF
          refine WL.b (some 28) t28 h_20 (field_ptr (P := Try.prog) (h := h_20) (s := 30) (f := 20) (by kernel_rfl) e138) ?_
          replace hF := obind_some hF; obtain ⟨v29, e139, hF⟩ := hF
          replace hF := obind_some hF; obtain ⟨t29, c140, hF⟩ := hF
          have c140 := avInt_some c140
          subst c140
          refine WL.b (some 29) (.int .i64 t29) h_20 (load_cell (P := Try.prog) (h := h_20) (t := 3) (by kernel_rfl) e139) ?_
          replace hF := lett_some hF; obtain ⟨t30, e141, hF⟩ := hF
          refine WL.val (d := (some 30)) (v := .bool t30) (h' := h_20) (by kernel_rfl) (by kernel_rfl) (val_of AV.bool e141 (by kernel_rfl)) ?_
          refine WL.a (some 31) (.bool t30) h_20 ?_
          exact WL.weaken (Fr.c (Fr.c (Fr.c Fr.n))) (J25 _ _ hF)
      cases t21 with
      | true =>
        replace hF := ifB_t hF
        refine WL.o (some 23) ?_
        refine WL.o (some 24) ?_
        refine WL.o (some 25) ?_
        refine WL.a (some 26) (.bool true) h_17 ?_
        exact WL.weaken (Fr.c (Fr.c (Fr.c Fr.n))) (J22 _ _ hF)
      | false =>
        replace hF := ifB_f hF
        replace hF := obind_some hF; obtain ⟨t23, e142, hF⟩ := hF
        refine WL.b (some 23) t23 h_17 (field_ptr (P := Try.prog) (h := h_17) (s := 30) (f := 19) (by kernel_rfl) e142) ?_
        replace hF := obind_some hF; obtain ⟨v24, e143, hF⟩ := hF
        replace hF := obind_some hF; obtain ⟨t24, c144, hF⟩ := hF
        have c144 := avInt_some c144
        subst c144
        refine WL.b (some 24) (.int .i64 t24) h_17 (load_cell (P := Try.prog) (h := h_17) (t := 23) (by kernel_rfl) e143) ?_
        replace hF := lett_some hF; obtain ⟨t25, e145, hF⟩ := hF
        refine WL.val (d := (some 25)) (v := .bool t25) (h' := h_17) (by kernel_rfl) (by kernel_rfl) (val_of AV.bool e145 (by kernel_rfl)) ?_
        refine WL.a (some 26) (.bool t25) h_17 ?_
        exact WL.weaken (Fr.c (Fr.c (Fr.c Fr.n))) (J22 _ _ hF)
    cases t16 with
    | true =>
      replace hF := ifB_t hF
      refine WL.o (some 18) ?_
      refine WL.o (some 19) ?_
      refine WL.o (some 20) ?_
      refine WL.a (some 21) (.bool true) h_14 ?_
      exact WL.weaken (Fr.c (Fr.c (Fr.c Fr.n))) (J19 _ _ hF)
    | false =>
      replace hF := ifB_f hF
      replace hF := obind_some hF; obtain ⟨t18, e146, hF⟩ := hF
      refine WL.b (some 18) t18 h_14 (field_ptr (P := Try.prog) (h := h_14) (s := 30) (f := 19) (by kernel_rfl) e146) ?_
      replace hF := obind_some hF; obtain ⟨v19, e147, hF⟩ := hF
      replace hF := obind_some hF; obtain ⟨t19, c148, hF⟩ := hF
      have c148 := avInt_some c148
      subst c148
      refine WL.b (some 19) (.int .i64 t19) h_14 (load_cell (P := Try.prog) (h := h_14) (t := 23) (by kernel_rfl) e147) ?_
      replace hF := lett_some hF; obtain ⟨t20, e149, hF⟩ := hF
      refine WL.val (d := (some 20)) (v := .bool t20) (h' := h_14) (by kernel_rfl) (by kernel_rfl) (val_of AV.bool e149 (by kernel_rfl)) ?_
      refine WL.a (some 21) (.bool t20) h_14 ?_
      exact WL.weaken (Fr.c (Fr.c (Fr.c Fr.n))) (J19 _ _ hF)
  cases t11 with
  | true =>
    replace hF := ifB_t hF
    refine WL.o (some 13) ?_
    refine WL.o (some 14) ?_
    refine WL.o (some 15) ?_
    refine WL.a (some 16) (.bool true) h_6 ?_
    exact WL.weaken (Fr.c (Fr.c (Fr.c Fr.n))) (J16 _ _ hF)
  | false =>
    replace hF := ifB_f hF
    replace hF := obind_some hF; obtain ⟨t13, e150, hF⟩ := hF
    refine WL.b (some 13) t13 h_6 (field_ptr (P := Try.prog) (h := h_6) (s := 30) (f := 0) (by kernel_rfl) e150) ?_
    replace hF := obind_some hF; obtain ⟨v14, e151, hF⟩ := hF
    replace hF := obind_some hF; obtain ⟨t14, c152, hF⟩ := hF
    have c152 := avInt_some c152
    subst c152
    refine WL.b (some 14) (.int .u8 t14) h_6 (load_cell (P := Try.prog) (h := h_6) (t := 5) (by kernel_rfl) e151) ?_
    replace hF := lett_some hF; obtain ⟨t15, e153, hF⟩ := hF
    refine WL.val (d := (some 15)) (v := .bool t15) (h' := h_6) (by kernel_rfl) (by kernel_rfl) (val_of AV.bool e153 (by kernel_rfl)) ?_
    refine WL.a (some 16) (.bool t15) h_6 ?_
    exact WL.weaken (Fr.c (Fr.c (Fr.c Fr.n))) (J16 _ _ hF)
noncomputable def ref17_Check_fn (call : CallF) (n : Nat) : FnT := fun args h => match args with
  | [x0] => obind (avAgg x0) fun t0 => ref17_Check call n t0 h
  | _ => none
set_option maxRecDepth 100000 in
theorem ref17_Check_fn_eq (call : CallF) (n : Nat) (t0 : List AV) (h : AHeap) : ref17_Check_fn call n [.agg t0] h = ref17_Check call n t0 h :=
  (Eq.trans (obind_eq (fun t0 => ref17_Check call n t0 h) (avAgg_agg t0)) rfl)
theorem ref17_Check_holds {call : CallF} (hc : SaysAll Try.prog call) (n : Nat) : Holds Try.prog 16 (ref17_Check_fn call n) := by
  intro args h r h2 e
  unfold ref17_Check_fn at e
  split at e
  · replace e := obind_some e; obtain ⟨t0, c0, e⟩ := e; have c0 := avAgg_some c0; subst c0
    exact ref17_Check_ok hc e
  · cases e

end Go.Proofs.Ytmibgiblejpgdaa
