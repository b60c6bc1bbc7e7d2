/- Plain functions in place of the program's, and that their calls come to what they say. -/
import Derived.Test.YtmibgiblejpgdaaFrame
import Derived.Test.YtmibgiblejpgdaaAbs50
namespace Go.Proofs.Ytmibgiblejpgdaa
open Go.RowKit Abs

noncomputable def ref17_Numbers (_ : CallF) (_ : Nat) (t0 : List AV) (h : AHeap) : R :=
  outK (opBox h 30 (some (.agg t0))) fun v1 h_2 =>
  obind (fldP 1 v1) fun t3 =>
  obind (ldCell h_2 t3) fun v4 =>
  obind (avInt .i64 v4) fun t4 =>
  obind (fldP 2 v1) fun t5 =>
  obind (ldCell h_2 t5) fun v6 =>
  obind (avInt .i64 v6) fun t6 =>
  obind (fldP 3 v1) fun t7 =>
  obind (ldCell h_2 t7) fun v8 =>
  obind (avInt .i64 v8) fun t8 =>
  obind (fldP 4 v1) fun t9 =>
  obind (ldCell h_2 t9) fun v10 =>
  obind (avInt .i64 v10) fun t10 =>
  obind (fldP 5 v1) fun t11 =>
  obind (ldCell h_2 t11) fun v12 =>
  obind (avInt .i64 v12) fun t12 =>
  obind (fldP 6 v1) fun t13 =>
  obind (ldCell h_2 t13) fun v14 =>
  obind (avInt .i64 v14) fun t14 =>
  obind (fldP 7 v1) fun t15 =>
  obind (ldCell h_2 t15) fun v16 =>
  obind (avInt .i64 v16) fun t16 =>
  obind (fldP 10 v1) fun t17 =>
  obind (ldCell h_2 t17) fun v18 =>
  obind (avInt .i64 v18) fun t18 =>
  obind (fldP 11 v1) fun t19 =>
  obind (ldCell h_2 t19) fun v20 =>
  obind (avInt .i64 v20) fun t20 =>
  obind (fldP 13 v1) fun t21 =>
  obind (ldCell h_2 t21) fun v22 =>
  obind (avInt .i64 v22) fun t22 =>
  obind (fldP 14 v1) fun t23 =>
  obind (fldP 0 t23) fun t24 =>
  obind (ldCell h_2 t24) fun v25 =>
  obind (avInt .i64 v25) fun t25 =>
  obind (fldP 14 v1) fun t26 =>
  obind (fldP 1 t26) fun t27 =>
  obind (ldCell h_2 t27) fun v28 =>
  obind (avInt .i64 v28) fun t28 =>
  obind (fldP 16 v1) fun t29 =>
  obind (ldCell h_2 t29) fun v30 =>
  obind (avInt .i64 v30) fun t30 =>
  obind (fldP 17 v1) fun t31 =>
  obind (ldCell h_2 t31) fun v32 =>
  obind (avInt .i64 v32) fun t32 =>
  obind (fldP 18 v1) fun t33 =>
  obind (ldCell h_2 t33) fun v34 =>
  obind (avInt .i64 v34) fun t34 =>
  outK (bldSl Try.prog h_2 79 15 [(0, .int .i64 t4), (1, .int .i64 t6), (2, .int .i64 t8), (3, .int .i64 t10), (4, .int .i64 t12), (5, .int .i64 t14), (6, .int .i64 t16), (7, .int .i64 t18), (8, .int .i64 t20), (9, .int .i64 t22), (10, .int .i64 t25), (11, .int .i64 t28), (12, .int .i64 t30), (13, .int .i64 t32), (14, .int .i64 t34)]) fun v35 h_52 =>
  some (.ret (v35), h_52)
set_option maxHeartbeats 4000000 in
set_option maxRecDepth 20000 in
theorem ref17_Numbers_ok {call : CallF} (_ : SaysAll Try.prog call) {n : Nat} {t0 : List AV} {h : AHeap} {rR : ARes} {hR : AHeap} (hF : ref17_Numbers call n t0 h = some (rR, hR)) : Says Try.prog 34 [.agg t0] h rR hR := by
  unfold ref17_Numbers at hF
  refine says_of (fn := Try.f34) Try.func34 (c := codeOf Try.f34) (by kernel_rfl) (by kernel_rfl) (fun w0 m0 => ?_)
  refine W.weaken (l' := [(0, .agg t0)]) (Fr.c Fr.n) ?_
  refine W.s (fun K1 n1 e1 q1 p1 => ?_)
  refine W.r ?_
  replace hF := outK_some hF; obtain ⟨v1, h_2, e3, hF⟩ := hF
  refine WL.b (some 1) v1 h_2 e3 ?_
  refine WL.a (some 2) AV.nsl h_2 ?_
  refine WL.n ?_
  refine Go.weaken (l' := [(1, v1)]) (Fr.c Fr.n) ?_
  refine n1 ?_
  refine W.s (fun K4 n4 e4 q4 p4 => ?_)
  refine W.r ?_
  replace hF := obind_some hF; obtain ⟨t3, e5, hF⟩ := hF
  refine WL.b (some 3) t3 h_2 (field_ptr (P := Try.prog) (h := h_2) (s := 30) (f := 1) (by kernel_rfl) e5) ?_
  replace hF := obind_some hF; obtain ⟨v4, e6, hF⟩ := hF
  replace hF := obind_some hF; obtain ⟨t4, c7, hF⟩ := hF
  have c7 := avInt_some c7
  subst c7
  refine WL.b (some 4) (.int .i64 t4) h_2 (load_cell (P := Try.prog) (h := h_2) (t := 3) (by kernel_rfl) e6) ?_
  replace hF := obind_some hF; obtain ⟨t5, e8, hF⟩ := hF
  refine WL.b (some 5) t5 h_2 (field_ptr (P := Try.prog) (h := h_2) (s := 30) (f := 2) (by kernel_rfl) e8) ?_
  replace hF := obind_some hF; obtain ⟨v6, e9, hF⟩ := hF
  replace hF := obind_some hF; obtain ⟨t6, c10, hF⟩ := hF
  have c10 := avInt_some c10
  subst c10
  refine WL.b (some 6) (.int .i64 t6) h_2 (load_cell (P := Try.prog) (h := h_2) (t := 3) (by kernel_rfl) e9) ?_
  replace hF := obind_some hF; obtain ⟨t7, e11, hF⟩ := hF
  refine WL.b (some 7) t7 h_2 (field_ptr (P := Try.prog) (h := h_2) (s := 30) (f := 3) (by kernel_rfl) e11) ?_
  replace hF := obind_some hF; obtain ⟨v8, e12, hF⟩ := hF
  replace hF := obind_some hF; obtain ⟨t8, c13, hF⟩ := hF
  have c13 := avInt_some c13
  subst c13
  refine WL.b (some 8) (.int .i64 t8) h_2 (load_cell (P := Try.prog) (h := h_2) (t := 3) (by kernel_rfl) e12) ?_
  replace hF := obind_some hF; obtain ⟨t9, e14, hF⟩ := hF
  refine WL.b (some 9) t9 h_2 (field_ptr (P := Try.prog) (h := h_2) (s := 30) (f := 4) (by kernel_rfl) e14) ?_
  replace hF := obind_some hF; obtain ⟨v10, e15, hF⟩ := hF
  replace hF := obind_some hF; obtain ⟨t10, c16, hF⟩ := hF
  have c16 := avInt_some c16
  subst c16
  refine WL.b (some 10) (.int .i64 t10) h_2 (load_cell (P := Try.prog) (h := h_2) (t := 3) (by kernel_rfl) e15) ?_
  replace hF := obind_some hF; obtain ⟨t11, e17, hF⟩ := hF
  refine WL.b (some 11) t11 h_2 (field_ptr (P := Try.prog) (h := h_2) (s := 30) (f := 5) (by kernel_rfl) e17) ?_
  replace hF := obind_some hF; obtain ⟨v12, e18, hF⟩ := hF
  replace hF := obind_some hF; obtain ⟨t12, c19, hF⟩ := hF
  have c19 := avInt_some c19
  subst c19
  refine WL.b (some 12) (.int .i64 t12) h_2 (load_cell (P := Try.prog) (h := h_2) (t := 3) (by kernel_rfl) e18) ?_
  replace hF := obind_some hF; obtain ⟨t13, e20, hF⟩ := hF
  refine WL.b (some 13) t13 h_2 (field_ptr (P := Try.prog) (h := h_2) (s := 30) (f := 6) (by kernel_rfl) e20) ?_
  replace hF := obind_some hF; obtain ⟨v14, e21, hF⟩ := hF
  replace hF := obind_some hF; obtain ⟨t14, c22, hF⟩ := hF
  have c22 := avInt_some c22
  subst c22
  refine WL.b (some 14) (.int .i64 t14) h_2 (load_cell (P := Try.prog) (h := h_2) (t := 3) (by kernel_rfl) e21) ?_
  replace hF := obind_some hF; obtain ⟨t15, e23, hF⟩ := hF
  refine WL.b (some 15) t15 h_2 (field_ptr (P := Try.prog) (h := h_2) (s := 30) (f := 7) (by kernel_rfl) e23) ?_
  replace hF := obind_some hF; obtain ⟨v16, e24, hF⟩ := hF
  replace hF := obind_some hF; obtain ⟨t16, c25, hF⟩ := hF
  have c25 := avInt_some c25
  subst c25
  refine WL.b (some 16) (.int .i64 t16) h_2 (load_cell (P := Try.prog) (h := h_2) (t := 3) (by kernel_rfl) e24) ?_
  replace hF := obind_some hF; obtain ⟨t17, e26, hF⟩ := hF
  refine WL.b (some 17) t17 h_2 (field_ptr (P := Try.prog) (h := h_2) (s := 30) (f := 10) (by kernel_rfl) e26) ?_
  replace hF := obind_some hF; obtain ⟨v18, e27, hF⟩ := hF
  replace hF := obind_some hF; obtain ⟨t18, c28, hF⟩ := hF
  have c28 := avInt_some c28
  subst c28
  refine WL.b (some 18) (.int .i64 t18) h_2 (load_cell (P := Try.prog) (h := h_2) (t := 3) (by kernel_rfl) e27) ?_
  replace hF := obind_some hF; obtain ⟨t19, e29, hF⟩ := hF
  refine WL.b (some 19) t19 h_2 (field_ptr (P := Try.prog) (h := h_2) (s := 30) (f := 11) (by kernel_rfl) e29) ?_
  replace hF := obind_some hF; obtain ⟨v20, e30, hF⟩ := hF
  replace hF := obind_some hF; obtain ⟨t20, c31, hF⟩ := hF
  have c31 := avInt_some c31
  subst c31
  refine WL.b (some 20) (.int .i64 t20) h_2 (load_cell (P := Try.prog) (h := h_2) (t := 3) (by kernel_rfl) e30) ?_
  replace hF := obind_some hF; obtain ⟨t21, e32, hF⟩ := hF
  refine WL.b (some 21) t21 h_2 (field_ptr (P := Try.prog) (h := h_2) (s := 30) (f := 13) (by kernel_rfl) e32) ?_
  replace hF := obind_some hF; obtain ⟨v22, e33, hF⟩ := hF
  replace hF := obind_some hF; obtain ⟨t22, c34, hF⟩ := hF
  have c34 := avInt_some c34
  subst c34
  refine WL.b (some 22) (.int .i64 t22) h_2 (load_cell (P := Try.prog) (h := h_2) (t := 3) (by kernel_rfl) e33) ?_
  replace hF := obind_some hF; obtain ⟨t23, e35, hF⟩ := hF
  refine WL.b (some 23) t23 h_2 (field_ptr (P := Try.prog) (h := h_2) (s := 30) (f := 14) (by kernel_rfl) e35) ?_
  replace hF := obind_some hF; obtain ⟨t24, e36, hF⟩ := hF
  refine WL.b (some 24) t24 h_2 (field_ptr (P := Try.prog) (h := h_2) (s := 28) (f := 0) (by kernel_rfl) e36) ?_
  replace hF := obind_some hF; obtain ⟨v25, e37, hF⟩ := hF
  replace hF := obind_some hF; obtain ⟨t25, c38, hF⟩ := hF
  have c38 := avInt_some c38
  subst c38
  refine WL.b (some 25) (.int .i64 t25) h_2 (load_cell (P := Try.prog) (h := h_2) (t := 3) (by kernel_rfl) e37) ?_
  replace hF := obind_some hF; obtain ⟨t26, e39, hF⟩ := hF
  refine WL.b (some 26) t26 h_2 (field_ptr (P := Try.prog) (h := h_2) (s := 30) (f := 14) (by kernel_rfl) e39) ?_
  replace hF := obind_some hF; obtain ⟨t27, e40, hF⟩ := hF
  refine WL.b (some 27) t27 h_2 (field_ptr (P := Try.prog) (h := h_2) (s := 28) (f := 1) (by kernel_rfl) e40) ?_
  replace hF := obind_some hF; obtain ⟨v28, e41, hF⟩ := hF
  replace hF := obind_some hF; obtain ⟨t28, c42, hF⟩ := hF
  have c42 := avInt_some c42
  subst c42
  refine WL.b (some 28) (.int .i64 t28) h_2 (load_cell (P := Try.prog) (h := h_2) (t := 3) (by kernel_rfl) e41) ?_
  replace hF := obind_some hF; obtain ⟨t29, e43, hF⟩ := hF
  refine WL.b (some 29) t29 h_2 (field_ptr (P := Try.prog) (h := h_2) (s := 30) (f := 15) (by kernel_rfl) e43) ?_
  replace hF := obind_some hF; obtain ⟨v30, e44, hF⟩ := hF
  replace hF := obind_some hF; obtain ⟨t30, c45, hF⟩ := hF
  have c45 := avInt_some c45
  subst c45
  refine WL.b (some 30) (.int .i64 t30) h_2 (load_cell (P := Try.prog) (h := h_2) (t := 3) (by kernel_rfl) e44) ?_
  replace hF := obind_some hF; obtain ⟨t31, e46, hF⟩ := hF
  refine WL.b (some 31) t31 h_2 (field_ptr (P := Try.prog) (h := h_2) (s := 30) (f := 16) (by kernel_rfl) e46) ?_
  replace hF := obind_some hF; obtain ⟨v32, e47, hF⟩ := hF
  replace hF := obind_some hF; obtain ⟨t32, c48, hF⟩ := hF
  have c48 := avInt_some c48
  subst c48
  refine WL.b (some 32) (.int .i64 t32) h_2 (load_cell (P := Try.prog) (h := h_2) (t := 3) (by kernel_rfl) e47) ?_
  replace hF := obind_some hF; obtain ⟨t33, e49, hF⟩ := hF
  refine WL.b (some 33) t33 h_2 (field_ptr (P := Try.prog) (h := h_2) (s := 30) (f := 17) (by kernel_rfl) e49) ?_
  replace hF := obind_some hF; obtain ⟨v34, e50, hF⟩ := hF
  replace hF := obind_some hF; obtain ⟨t34, c51, hF⟩ := hF
  have c51 := avInt_some c51
  subst c51
  refine WL.b (some 34) (.int .i64 t34) h_2 (load_cell (P := Try.prog) (h := h_2) (t := 3) (by kernel_rfl) e50) ?_
  replace hF := outK_some hF; obtain ⟨v35, h_52, e53, hF⟩ := hF
  refine WL.b (some 35) v35 h_52 e53 ?_
  refine WL.a (some 2) v35 h_52 ?_
  refine WL.n ?_
  refine Go.weaken (l' := [(2, v35)]) (Fr.c Fr.n) ?_
  refine n4 ?_
  refine W.ret (by kernel_rfl) ?_
  obtain ⟨hF, hF2⟩ := ret_inj hF; subst hF; subst hF2
  exact leave_of (rs := [.tmp 2]) (vs := [v35]) (by kernel_rfl) (res_tmp (by kernel_rfl) res_nil) (by kernel_rfl)
noncomputable def ref17_Numbers_fn (call : CallF) (n : Nat) : FnT := fun args h => match args with
  | [x0] => obind (avAgg x0) fun t0 => ref17_Numbers call n t0 h
  | _ => none
set_option maxRecDepth 100000 in
theorem ref17_Numbers_fn_eq (call : CallF) (n : Nat) (t0 : List AV) (h : AHeap) : ref17_Numbers_fn call n [.agg t0] h = ref17_Numbers call n t0 h :=
  (Eq.trans (obind_eq (fun t0 => ref17_Numbers call n t0 h) (avAgg_agg t0)) rfl)
theorem ref17_Numbers_holds {call : CallF} (hc : SaysAll Try.prog call) (n : Nat) : Holds Try.prog 34 (ref17_Numbers_fn call n) := by
  intro args h r h2 e
  unfold ref17_Numbers_fn at e
  split at e
  · replace e := obind_some e; obtain ⟨t0, c0, e⟩ := e; have c0 := avAgg_some c0; subst c0
    exact ref17_Numbers_ok hc e
  · cases e

noncomputable def ref17_Same_L1b (r10 : AV) (r12 : AV) (k17 : AHeap → R) (self : Int → AHeap → R) (t7 : Int) (h_120 : AHeap) : R :=
  obind (lenL r10) fun t15 =>
  lett (decide (t7 < t15)) fun (t16 : Bool) =>
  ifB t16
  (
    obind (idxP 1 r10 t7) fun t21 =>
    obind (ldCell h_120 t21) fun v22 =>
    obind (avInt .i64 v22) fun t22 =>
    obind (idxP 1 r12 t7) fun t25 =>
    obind (ldCell h_120 t25) fun v26 =>
    obind (avInt .i64 v26) fun t26 =>
    lett ((t22 : Int) != t26) fun (t27 : Bool) =>
    ifB t27
    (
      some (.ret (.bool false), h_120))
    (
      lett (IntKind.i64.wrap (t7 + 1)) fun (t18 : Int) =>
      self t18 h_120))
  (
    k17 h_120)
noncomputable def ref17_Same_L1 (r10 : AV) (r12 : AV) (k17 : AHeap → R) : Nat → Int → AHeap → R := iterR (fun _ _ => none) (ref17_Same_L1b r10 r12 k17)
theorem ref17_Same_L1_s (r10 : AV) (r12 : AV) (k17 : AHeap → R) (m : Nat) : ref17_Same_L1 r10 r12 k17 (m + 1) = ref17_Same_L1b r10 r12 k17 (ref17_Same_L1 r10 r12 k17 m) := rfl
noncomputable def ref17_Same_L0b (v2 : AV) (v3 : AV) (k50 : AHeap → R) (self : Int → AHeap → R) (t8 : Int) (h_54 : AHeap) : R :=
  obind (fldP 9 v2) fun t78 =>
  obind (ldCell h_54 t78) fun v79 =>
  obind (lenL v79) fun t80 =>
  lett (decide (t8 < t80)) fun (t81 : Bool) =>
  ifB t81
  (
    obind (fldP 9 v2) fun t84 =>
    obind (ldCell h_54 t84) fun v85 =>
    obind (idxP 2 v85 t8) fun t87 =>
    obind (ldRow h_54 2 t87) fun t88 =>
    obind (fldP 9 v3) fun t89 =>
    obind (ldCell h_54 t89) fun v90 =>
    obind (idxP 2 v90 t8) fun t92 =>
    obind (ldRow h_54 2 t92) fun t93 =>
    obind (eqOther Try.prog 42 (.agg t88) (.agg t93)) fun t94 =>
    lett (!t94) fun (t94_73 : Bool) =>
    ifB t94_73
    (
      some (.ret (.bool false), h_54))
    (
      lett (IntKind.i64.wrap (t8 + 1)) fun (t83 : Int) =>
      self t83 h_54))
  (
    k50 h_54)
noncomputable def ref17_Same_L0 (v2 : AV) (v3 : AV) (k50 : AHeap → R) : Nat → Int → AHeap → R := iterR (fun _ _ => none) (ref17_Same_L0b v2 v3 k50)
theorem ref17_Same_L0_s (v2 : AV) (v3 : AV) (k50 : AHeap → R) (m : Nat) : ref17_Same_L0 v2 v3 k50 (m + 1) = ref17_Same_L0b v2 v3 k50 (ref17_Same_L0 v2 v3 k50 m) := rfl
noncomputable def ref17_Same (call : CallF) (n : Nat) (t0 : List AV) (t1 : List AV) (h : AHeap) : R :=
  outK (opBox h 30 (some (.agg t0))) fun v2 h_2 =>
  outK (opBox h_2 30 (some (.agg t1))) fun v3 h_4 =>
  obind (ldRow h_4 22 v2) fun t9 =>
  obind (ldRow h_4 22 v3) fun t11 =>
  callN (call 34 [.agg t9] h_4) fun r10 h_9 =>
  chk (reLoad Try.prog h_9 30 v3 (.agg t11) && (true && true)) <|
  callN (call 34 [.agg t11] h_9) fun r12 h_12 =>
  lett (fun  (h_18 : AHeap) =>
    obind (fldP 0 v2) fun t28 =>
    obind (ldCell h_18 t28) fun v29 =>
    obind (avInt .u8 v29) fun t29 =>
    obind (fldP 0 v3) fun t30 =>
    obind (ldCell h_18 t30) fun v31 =>
    obind (avInt .u8 v31) fun t31 =>
    lett ((t29 : Int) != t31) fun (t32 : Bool) =>
    lett (fun (t39 : Bool) (h_28 : AHeap) =>
      lett (fun (t46 : Bool) (h_31 : AHeap) =>
        lett (fun (t53 : Bool) (h_34 : AHeap) =>
          lett (fun (t60 : Bool) (h_37 : AHeap) =>
            lett (fun (t67 : Bool) (h_40 : AHeap) =>
              lett (fun (t76 : Bool) (h_43 : AHeap) =>
                ifB t76
                (
                  some (.ret (.bool false), h_43))
                (
                  lett (fun  (h_51 : AHeap) =>
                    some (.ret (.bool true), h_51)) fun k50 =>
                  ref17_Same_L0 v2 v3 k50 n 0 h_43)) fun j76 =>
              ifB t67
              (
                j76 true h_40)
              (
                obind (fldP 9 v2) fun t69 =>
                obind (ldCell h_40 t69) fun v70 =>
                obind (lenL v70) fun t71 =>
                obind (fldP 9 v3) fun t72 =>
                obind (ldCell h_40 t72) fun v73 =>
                obind (lenL v73) fun t74 =>
                lett ((t71 : Int) != t74) fun (t75 : Bool) =>
                j76 t75 h_40)) fun j67 =>
            ifB t60
            (
              j67 true h_37)
            (
              obind (fldP 12 v2) fun t62 =>
              obind (ldCell h_37 t62) fun v63 =>
              obind (avStr v63) fun t63 =>
              obind (fldP 12 v3) fun t64 =>
              obind (ldCell h_37 t64) fun v65 =>
              obind (avStr v65) fun t65 =>
              lett (!eqS t63 t65) fun (t66 : Bool) =>
              j67 t66 h_37)) fun j60 =>
          ifB t53
          (
            j60 true h_34)
          (
            obind (fldP 21 v2) fun t55 =>
            obind (ldCell h_34 t55) fun v56 =>
            obind (avInt .i64 v56) fun t56 =>
            obind (fldP 21 v3) fun t57 =>
            obind (ldCell h_34 t57) fun v58 =>
            obind (avInt .i64 v58) fun t58 =>
            lett ((t56 : Int) != t58) fun (t59 : Bool) =>
            j60 t59 h_34)) fun j53 =>
        ifB t46
        (
          j53 true h_31)
        (
          obind (fldP 20 v2) fun t48 =>
          obind (ldCell h_31 t48) fun v49 =>
          obind (avInt .i64 v49) fun t49 =>
          obind (fldP 20 v3) fun t50 =>
          obind (ldCell h_31 t50) fun v51 =>
          obind (avInt .i64 v51) fun t51 =>
          lett ((t49 : Int) != t51) fun (t52 : Bool) =>
          j53 t52 h_31)) fun j46 =>
      ifB t39
      (
        j46 true h_28)
      (
        obind (fldP 19 v2) fun t41 =>
        obind (ldCell h_28 t41) fun v42 =>
        obind (avInt .u8 v42) fun t42 =>
        obind (fldP 19 v3) fun t43 =>
        obind (ldCell h_28 t43) fun v44 =>
        obind (avInt .u8 v44) fun t44 =>
        lett ((t42 : Int) != t44) fun (t45 : Bool) =>
        j46 t45 h_28)) fun j39 =>
    ifB t32
    (
      j39 true h_18)
    (
      obind (fldP 8 v2) fun t34 =>
      obind (ldCell h_18 t34) fun v35 =>
      obind (avBool v35) fun t35 =>
      obind (fldP 8 v3) fun t36 =>
      obind (ldCell h_18 t36) fun v37 =>
      obind (avBool v37) fun t37 =>
      lett (!((t35 : Bool) == t37)) fun (t38 : Bool) =>
      j39 t38 h_18)) fun k17 =>
  ref17_Same_L1 r10 r12 k17 n 0 h_12
set_option maxHeartbeats 4000000 in
set_option maxRecDepth 20000 in
theorem ref17_Same_ok {call : CallF} (hc : SaysAll Try.prog call) {n : Nat} {t0 : List AV} {t1 : List AV} {h : AHeap} {rR : ARes} {hR : AHeap} (hF : ref17_Same call n t0 t1 h = some (rR, hR)) : Says Try.prog 17 [.agg t0, .agg t1] h rR hR := by
  unfold ref17_Same at hF
  refine says_of (fn := Try.f17) Try.func17 (c := codeOf Try.f17) (by kernel_rfl) (by kernel_rfl) (fun w0 m0 => ?_)
  refine W.weaken (l' := [(0, .agg t0), (1, .agg t1)]) (Fr.c (Fr.c Fr.n)) ?_
  refine W.s (fun K1 n1 e1 q1 p1 => ?_)
  refine W.r ?_
  replace hF := outK_some hF; obtain ⟨v2, h_2, e3, hF⟩ := hF
  refine WL.b (some 2) v2 h_2 e3 ?_
  replace hF := outK_some hF; obtain ⟨v3, h_4, e5, hF⟩ := hF
  refine WL.b (some 3) v3 h_4 e5 ?_
  refine WL.a (some 4) (.bool false) h_4 ?_
  refine WL.n ?_
  refine Go.weaken (l' := [(2, v2), (3, v3)]) (Fr.c (Fr.c Fr.n)) ?_
  refine n1 ?_
  refine W.s (fun K6 n6 e6 q6 p6 => ?_)
  refine W.draw (by kernel_rfl) (hc.ok w0) (plan := [0, 2, 1, 3, 4, 5]) (by kernel_rfl) (by kernel_rfl) (by kernel_rfl) ?_
  replace hF := obind_some hF; obtain ⟨t9, e7, hF⟩ := hF
  refine WD.b 1 (some 9) (.agg t9) h_4 (load_row (P := Try.prog) (h := h_4) (t := 30) (by kernel_rfl) (by kernel_rfl) e7) ?_
  replace hF := obind_some hF; obtain ⟨t11, e8, hF⟩ := hF
  refine WD.b 1 (some 11) (.agg t11) h_4 (load_row (P := Try.prog) (h := h_4) (t := 30) (by kernel_rfl) (by kernel_rfl) e8) ?_
  replace hF := callN_some hF; obtain ⟨r10, h_9, e10, hF⟩ := hF
  replace hF := chk_some hF; obtain ⟨k11, hF⟩ := hF
  refine WD.call (d := (some 10)) (by kernel_rfl) (by kernel_rfl) (by kernel_rfl) e10 (k := 2) (by kernel_rfl) (fun _ => (Eq.trans (by kernel_rfl) k11)) (by decide) ?_
  replace hF := callN_some hF; obtain ⟨r12, h_12, e13, hF⟩ := hF
  refine WD.call (d := (some 12)) (by kernel_rfl) (by kernel_rfl) (by kernel_rfl) e13 (k := 2) (by kernel_rfl) (fun _ => (by kernel_rfl)) (by decide) ?_
  refine WD.a 0 (some 5) r10 h_12 ?_
  refine WD.a 0 (some 6) r12 h_12 ?_
  refine WD.nil ?_
  refine Go.weaken (l' := [(2, v2), (3, v3), (5, r10), (6, r12)]) (Fr.c (Fr.c (Fr.c (Fr.c Fr.n)))) ?_
  refine n6 ?_
  refine W.s (fun K14 n14 e14 q14 p14 => ?_)
  refine W.s (fun K15 n15 e15 q15 p15 => ?_)
  refine W.r ?_
  refine WL.a (some 7) (.int .i64 0) h_12 ?_
  refine WL.n ?_
  refine Go.weaken (l' := [(2, v2), (3, v3), (5, r10), (6, r12), (7, .int .i64 0)]) (Fr.c (Fr.c (Fr.c (Fr.c (Fr.c Fr.n))))) ?_
  refine n15 ?_
  replace hF := lett_some hF; obtain ⟨k17, e17, hF⟩ := hF
  have J17 : ∀  (h_18 : AHeap), k17 h_18 = some (rR, hR) → Go w0 m0 (Func.ntmps Try.f17) (K14 .normal) [(2, v2), (3, v3)] [] h_18 := by
    intro  h_18 hF
    rw [e17] at hF
    refine n14 ?_
    refine W.s (fun K19 n19 e19 q19 p19 => ?_)
    refine W.s (fun K20 n20 e20 q20 p20 => ?_)
    refine W.r ?_
    replace hF := obind_some hF; obtain ⟨t28, e21, hF⟩ := hF
    refine WL.b (some 28) t28 h_18 (field_ptr (P := Try.prog) (h := h_18) (s := 30) (f := 0) (by kernel_rfl) e21) ?_
    replace hF := obind_some hF; obtain ⟨v29, e22, hF⟩ := hF
    replace hF := obind_some hF; obtain ⟨t29, c23, hF⟩ := hF
    have c23 := avInt_some c23
    subst c23
    refine WL.b (some 29) (.int .u8 t29) h_18 (load_cell (P := Try.prog) (h := h_18) (t := 5) (by kernel_rfl) e22) ?_
    replace hF := obind_some hF; obtain ⟨t30, e24, hF⟩ := hF
    refine WL.b (some 30) t30 h_18 (field_ptr (P := Try.prog) (h := h_18) (s := 30) (f := 0) (by kernel_rfl) e24) ?_
    replace hF := obind_some hF; obtain ⟨v31, e25, hF⟩ := hF
    replace hF := obind_some hF; obtain ⟨t31, c26, hF⟩ := hF
    have c26 := avInt_some c26
    subst c26
    refine WL.b (some 31) (.int .u8 t31) h_18 (load_cell (P := Try.prog) (h := h_18) (t := 5) (by kernel_rfl) e25) ?_
    replace hF := lett_some hF; obtain ⟨t32, e27, hF⟩ := hF
    refine WL.val (d := (some 32)) (v := .bool t32) (h' := h_18) (by kernel_rfl) (by kernel_rfl) (val_of AV.bool e27 (by kernel_rfl)) ?_
    refine WL.a (some 33) (.bool t32) h_18 ?_
    replace hF := lett_some hF; obtain ⟨j39, e29, hF⟩ := hF
    have J30 : ∀ (t39 : Bool) (h_28 : AHeap), j39 t39 h_28 = some (rR, hR) → WL Try.prog w0 m0 (Func.ntmps Try.f17) (Code.ops (Code.p1 (Code.p1 (Code.p2 (Code.p2 (Code.p2 (codeOf Try.f17))))))) 12 K20 [(2, v2), (3, v3), (39, .bool t39)] [] h_28 := by
      intro t39 h_28 hF
      rw [e29] at hF
      refine WL.a (some 40) (.bool t39) h_28 ?_
      replace hF := lett_some hF; obtain ⟨j46, e32, hF⟩ := hF
      have J33 : ∀ (t46 : Bool) (h_31 : AHeap), j46 t46 h_31 = some (rR, hR) → WL Try.prog w0 m0 (Func.ntmps Try.f17) (Code.ops (Code.p1 (Code.p1 (Code.p2 (Code.p2 (Code.p2 (codeOf Try.f17))))))) 19 K20 [(2, v2), (3, v3), (46, .bool t46)] [] h_31 := by
        intro t46 h_31 hF
        rw [e32] at hF
        refine WL.a (some 47) (.bool t46) h_31 ?_
        replace hF := lett_some hF; obtain ⟨j53, e35, hF⟩ := hF
        have J36 : ∀ (t53 : Bool) (h_34 : AHeap), j53 t53 h_34 = some (rR, hR) → WL Try.prog w0 m0 (Func.ntmps Try.f17) (Code.ops (Code.p1 (Code.p1 (Code.p2 (Code.p2 (Code.p2 (codeOf Try.f17))))))) 26 K20 [(2, v2), (3, v3), (53, .bool t53)] [] h_34 := by
          intro t53 h_34 hF
          rw [e35] at hF
          refine WL.a (some 54) (.bool t53) h_34 ?_
          replace hF := lett_some hF; obtain ⟨j60, e38, hF⟩ := hF
          have J39 : ∀ (t60 : Bool) (h_37 : AHeap), j60 t60 h_37 = some (rR, hR) → WL Try.prog w0 m0 (Func.ntmps Try.f17) (Code.ops (Code.p1 (Code.p1 (Code.p2 (Code.p2 (Code.p2 (codeOf Try.f17))))))) 33 K20 [(2, v2), (3, v3), (60, .bool t60)] [] h_37 := by
            intro t60 h_37 hF
            rw [e38] at hF
            refine WL.a (some 61) (.bool t60) h_37 ?_
            replace hF := lett_some hF; obtain ⟨j67, e41, hF⟩ := hF
            have J42 : ∀ (t67 : Bool) (h_40 : AHeap), j67 t67 h_40 = some (rR, hR) → WL Try.prog w0 m0 (Func.ntmps Try.f17) (Code.ops (Code.p1 (Code.p1 (Code.p2 (Code.p2 (Code.p2 (codeOf Try.f17))))))) 40 K20 [(2, v2), (3, v3), (67, .bool t67)] [] h_40 := by
              intro t67 h_40 hF
              rw [e41] at hF
              refine WL.a (some 68) (.bool t67) h_40 ?_
              replace hF := lett_some hF; obtain ⟨j76, e44, hF⟩ := hF
              have J45 : ∀ (t76 : Bool) (h_43 : AHeap), j76 t76 h_43 = some (rR, hR) → WL Try.prog w0 m0 (Func.ntmps Try.f17) (Code.ops (Code.p1 (Code.p1 (Code.p2 (Code.p2 (Code.p2 (codeOf Try.f17))))))) 49 K20 [(2, v2), (3, v3), (76, .bool t76)] [] h_43 := by
                intro t76 h_43 hF
                rw [e44] at hF
                refine WL.n ?_
                refine Go.weaken (l' := [(2, v2), (3, v3), (76, .bool t76)]) (Fr.c (Fr.c (Fr.c Fr.n))) ?_
                refine n20 ?_
                cases t76 with
                | true =>
                  replace hF := ifB_t hF
                  refine W.t ?_
                  refine W.s (fun K46 n46 e46 q46 p46 => ?_)
                  refine W.r ?_
                  refine WL.a (some 4) (.bool false) h_43 ?_
                  refine WL.n ?_
                  refine Go.weaken (l' := [(4, .bool false)]) (Fr.c Fr.n) ?_
                  refine n46 ?_
                  refine W.ret (by kernel_rfl) ?_
                  refine q19 ?_
                  obtain ⟨hF, hF2⟩ := ret_inj hF; subst hF; subst hF2
                  exact leave_of (rs := [.tmp 4]) (vs := [.bool false]) (by kernel_rfl) (res_tmp (by kernel_rfl) res_nil) (by kernel_rfl)
                | false =>
                  replace hF := ifB_f hF
                  refine W.f ?_
                  refine W.skip (by kernel_rfl) ?_
                  refine n19 ?_
                  refine W.s (fun K47 n47 e47 q47 p47 => ?_)
                  refine W.s (fun K48 n48 e48 q48 p48 => ?_)
                  refine W.r ?_
                  refine WL.a (some 8) (.int .i64 0) h_43 ?_
                  refine WL.n ?_
                  refine Go.weaken (l' := [(2, v2), (3, v3), (8, .int .i64 0)]) (Fr.c (Fr.c (Fr.c Fr.n))) ?_
                  refine n48 ?_
                  replace hF := lett_some hF; obtain ⟨k50, e50, hF⟩ := hF
                  have J50 : ∀  (h_51 : AHeap), k50 h_51 = some (rR, hR) → Go w0 m0 (Func.ntmps Try.f17) (K47 .normal) [] [] h_51 := by
                    intro  h_51 hF
                    rw [e50] at hF
                    refine n47 ?_
                    refine W.s (fun K52 n52 e52 q52 p52 => ?_)
                    refine W.r ?_
                    refine WL.a (some 4) (.bool true) h_51 ?_
                    refine WL.n ?_
                    refine Go.weaken (l' := [(4, .bool true)]) (Fr.c Fr.n) ?_
                    refine n52 ?_
                    refine W.ret (by kernel_rfl) ?_
                    obtain ⟨hF, hF2⟩ := ret_inj hF; subst hF; subst hF2
                    exact leave_of (rs := [.tmp 4]) (vs := [.bool true]) (by kernel_rfl) (res_tmp (by kernel_rfl) res_nil) (by kernel_rfl)
                  refine W.blockK (by kernel_rfl) (fun K49 n49 s49 o49 q49 p49 => ?_)
                  refine W.loopK (by kernel_rfl) (fun I53 K53 b53 n53 e53 q53 p53 => ?_)
                  have L53 : ∀ (m : Nat) (t8 : Int) (h_54 : AHeap), ref17_Same_L0 v2 v3 k50 m t8 h_54 = some (rR, hR) → Go w0 m0 (Func.ntmps Try.f17) I53 [(2, v2), (3, v3), (8, .int .i64 t8)] [] h_54 := by
                    intro m
                    induction m with
                    | zero => intro t8 h_54 hF; cases hF
                    | succ m ih53 =>
                      intro t8 h_54 hF
                      rw [ref17_Same_L0_s] at hF; unfold ref17_Same_L0b at hF
                      refine b53 ?_
                      refine W.s (fun K55 n55 e55 q55 p55 => ?_)
                      refine W.s (fun K56 n56 e56 q56 p56 => ?_)
                      refine W.r ?_
                      refine WL.a (some 77) (.int .i64 t8) h_54 ?_
                      replace hF := obind_some hF; obtain ⟨t78, e57, hF⟩ := hF
                      refine WL.b (some 78) t78 h_54 (field_ptr (P := Try.prog) (h := h_54) (s := 30) (f := 9) (by kernel_rfl) e57) ?_
                      replace hF := obind_some hF; obtain ⟨v79, e58, hF⟩ := hF
                      refine WL.b (some 79) v79 h_54 (load_cell (P := Try.prog) (h := h_54) (t := 26) (by kernel_rfl) e58) ?_
                      replace hF := obind_some hF; obtain ⟨t80, e59, hF⟩ := hF
                      refine WL.b (some 80) (.int .i64 t80) h_54 (len_row (P := Try.prog) (h := h_54) (t := 26) (e' := 42) (by kernel_rfl) e59) ?_
                      replace hF := lett_some hF; obtain ⟨t81, e60, hF⟩ := hF
                      refine WL.val (d := (some 81)) (v := .bool t81) (h' := h_54) (by kernel_rfl) (by kernel_rfl) (val_of AV.bool e60 (by kernel_rfl)) ?_
                      refine WL.n ?_
                      refine Go.weaken (l' := [(2, v2), (3, v3), (8, .int .i64 t8), (81, .bool t81)]) (Fr.c (Fr.c (Fr.c (Fr.c Fr.n)))) ?_
                      refine n56 ?_
                      cases t81 with
                      | true =>
                        replace hF := ifB_t hF
                        refine W.t ?_
                        refine W.skip (by kernel_rfl) ?_
                        refine n55 ?_
                        refine W.s (fun K61 n61 e61 q61 p61 => ?_)
                        refine W.blockK (by kernel_rfl) (fun K62 n62 s62 o62 q62 p62 => ?_)
                        refine W.s (fun K63 n63 e63 q63 p63 => ?_)
                        refine W.draw (by kernel_rfl) (hc.ok w0) (plan := [0, 1, 2, 3, 4, 5, 6, 7, 8, 9, 10]) (by kernel_rfl) (by kernel_rfl) (by kernel_rfl) ?_
                        replace hF := obind_some hF; obtain ⟨t84, e64, hF⟩ := hF
                        refine WD.b 0 (some 84) t84 h_54 (field_ptr (P := Try.prog) (h := h_54) (s := 30) (f := 9) (by kernel_rfl) e64) ?_
                        replace hF := obind_some hF; obtain ⟨v85, e65, hF⟩ := hF
                        refine WD.b 1 (some 85) v85 h_54 (load_cell (P := Try.prog) (h := h_54) (t := 26) (by kernel_rfl) e65) ?_
                        refine WD.a 0 (some 86) (.int .i64 t8) h_54 ?_
                        replace hF := obind_some hF; obtain ⟨t87, e66, hF⟩ := hF
                        refine WD.b 0 (some 87) t87 h_54 (index_row (P := Try.prog) (h := h_54) (t := 26) (e' := 42) (k := .i64) (by kernel_rfl) (by kernel_rfl) (by kernel_rfl) e66) ?_
                        replace hF := obind_some hF; obtain ⟨t88, e67, hF⟩ := hF
                        refine WD.b 1 (some 88) (.agg t88) h_54 (load_row (P := Try.prog) (h := h_54) (t := 42) (by kernel_rfl) (by kernel_rfl) e67) ?_
                        replace hF := obind_some hF; obtain ⟨t89, e68, hF⟩ := hF
                        refine WD.b 0 (some 89) t89 h_54 (field_ptr (P := Try.prog) (h := h_54) (s := 30) (f := 9) (by kernel_rfl) e68) ?_
                        replace hF := obind_some hF; obtain ⟨v90, e69, hF⟩ := hF
                        refine WD.b 1 (some 90) v90 h_54 (load_cell (P := Try.prog) (h := h_54) (t := 26) (by kernel_rfl) e69) ?_
                        refine WD.a 0 (some 91) (.int .i64 t8) h_54 ?_
                        replace hF := obind_some hF; obtain ⟨t92, e70, hF⟩ := hF
                        refine WD.b 0 (some 92) t92 h_54 (index_row (P := Try.prog) (h := h_54) (t := 26) (e' := 42) (k := .i64) (by kernel_rfl) (by kernel_rfl) (by kernel_rfl) e70) ?_
                        replace hF := obind_some hF; obtain ⟨t93, e71, hF⟩ := hF
                        refine WD.b 1 (some 93) (.agg t93) h_54 (load_row (P := Try.prog) (h := h_54) (t := 42) (by kernel_rfl) (by kernel_rfl) e71) ?_
                        replace hF := obind_some hF; obtain ⟨t94, e72, hF⟩ := hF
                        replace hF := lett_some hF; obtain ⟨t94_73, e74, hF⟩ := hF
                        refine WD.val (d := (some 94)) (v := .bool t94_73) (h' := h_54) (by kernel_rfl) (by kernel_rfl) (val_of AV.bool e74 (Eq.trans (by kernel_rfl) (neq_other (P := Try.prog) (h := h_54) (t := 42) (lit := false) (by kernel_rfl) e72))) (k := 0) (by kernel_rfl) (fun e => absurd e (by decide)) (by decide) ?_
                        refine WD.nil ?_
                        refine Go.weaken (l' := [(2, v2), (3, v3), (8, .int .i64 t8), (94, .bool t94_73)]) (Fr.c (Fr.c (Fr.c (Fr.c Fr.n)))) ?_
                        refine n63 ?_
                        cases t94_73 with
                        | true =>
                          replace hF := ifB_t hF
                          refine W.t ?_
                          refine W.s (fun K75 n75 e75 q75 p75 => ?_)
                          refine W.r ?_
                          refine WL.a (some 4) (.bool false) h_54 ?_
                          refine WL.n ?_
                          refine Go.weaken (l' := [(4, .bool false)]) (Fr.c Fr.n) ?_
                          refine n75 ?_
                          refine W.ret (by kernel_rfl) ?_
                          refine q62 ?_
                          refine q61 ?_
                          refine q53 ?_
                          refine q49 ?_
                          refine q47 ?_
                          obtain ⟨hF, hF2⟩ := ret_inj hF; subst hF; subst hF2
                          exact leave_of (rs := [.tmp 4]) (vs := [.bool false]) (by kernel_rfl) (res_tmp (by kernel_rfl) res_nil) (by kernel_rfl)
                        | false =>
                          replace hF := ifB_f hF
                          refine W.f ?_
                          refine W.skip (by kernel_rfl) ?_
                          refine n62 ?_
                          refine n61 ?_
                          refine W.r ?_
                          refine WL.a (some 82) (.int .i64 t8) h_54 ?_
                          replace hF := lett_some hF; obtain ⟨t83, e76, hF⟩ := hF
                          refine WL.val (d := (some 83)) (v := .int .i64 t83) (h' := h_54) (by kernel_rfl) (by kernel_rfl) (val_of (AV.int .i64) e76 (by kernel_rfl)) ?_
                          refine WL.a (some 8) (.int .i64 t83) h_54 ?_
                          refine WL.n ?_
                          refine Go.weaken (l' := [(2, v2), (3, v3), (8, .int .i64 t83)]) (Fr.c (Fr.c (Fr.c Fr.n))) ?_
                          refine n53 ?_
                          exact Go.weaken (Fr.c (Fr.c (Fr.c Fr.n))) (ih53 _ _ hF)
                      | false =>
                        replace hF := ifB_f hF
                        refine W.f ?_
                        refine W.exit (by kernel_rfl) ?_
                        refine e55 ?_
                        refine e53 ?_
                        refine s49 (by kernel_rfl) ?_
                        exact Go.weaken Fr.n (J50 _ hF)
                  exact Go.weaken (Fr.c (Fr.c (Fr.c Fr.n))) (L53 _ _ _ hF)
              cases t67 with
              | true =>
                replace hF := ifB_t hF
                refine WL.o (some 69) ?_
                refine WL.o (some 70) ?_
                refine WL.o (some 71) ?_
                refine WL.o (some 72) ?_
                refine WL.o (some 73) ?_
                refine WL.o (some 74) ?_
                refine WL.o (some 75) ?_
                refine WL.a (some 76) (.bool true) h_40 ?_
                exact WL.weaken (Fr.c (Fr.c (Fr.c Fr.n))) (J45 _ _ hF)
              | false =>
                replace hF := ifB_f hF
                replace hF := obind_some hF; obtain ⟨t69, e77, hF⟩ := hF
                refine WL.b (some 69) t69 h_40 (field_ptr (P := Try.prog) (h := h_40) (s := 30) (f := 9) (by kernel_rfl) e77) ?_
                replace hF := obind_some hF; obtain ⟨v70, e78, hF⟩ := hF
                refine WL.b (some 70) v70 h_40 (load_cell (P := Try.prog) (h := h_40) (t := 26) (by kernel_rfl) e78) ?_
                replace hF := obind_some hF; obtain ⟨t71, e79, hF⟩ := hF
                refine WL.b (some 71) (.int .i64 t71) h_40 (len_row (P := Try.prog) (h := h_40) (t := 26) (e' := 42) (by kernel_rfl) e79) ?_
                replace hF := obind_some hF; obtain ⟨t72, e80, hF⟩ := hF
                refine WL.b (some 72) t72 h_40 (field_ptr (P := Try.prog) (h := h_40) (s := 30) (f := 9) (by kernel_rfl) e80) ?_
                replace hF := obind_some hF; obtain ⟨v73, e81, hF⟩ := hF
                refine WL.b (some 73) v73 h_40 (load_cell (P := Try.prog) (h := h_40) (t := 26) (by kernel_rfl) e81) ?_
                replace hF := obind_some hF; obtain ⟨t74, e82, hF⟩ := hF
                refine WL.b (some 74) (.int .i64 t74) h_40 (len_row (P := Try.prog) (h := h_40) (t := 26) (e' := 42) (by kernel_rfl) e82) ?_
                replace hF := lett_some hF; obtain ⟨t75, e83, hF⟩ := hF
                refine WL.val (d := (some 75)) (v := .bool t75) (h' := h_40) (by kernel_rfl) (by kernel_rfl) (val_of AV.bool e83 (by kernel_rfl)) ?_
                refine WL.a (some 76) (.bool t75) h_40 ?_
                exact WL.weaken (Fr.c (Fr.c (Fr.c Fr.n))) (J45 _ _ hF)
            cases t60 with
            | true =>
              replace hF := ifB_t hF
              refine WL.o (some 62) ?_
              refine WL.o (some 63) ?_
              refine WL.o (some 64) ?_
              refine WL.o (some 65) ?_
              refine WL.o (some 66) ?_
              refine WL.a (some 67) (.bool true) h_37 ?_
              exact WL.weaken (Fr.c (Fr.c (Fr.c Fr.n))) (J42 _ _ hF)
            | false =>
              replace hF := ifB_f hF
              replace hF := obind_some hF; obtain ⟨t62, e84, hF⟩ := hF
              refine WL.b (some 62) t62 h_37 (field_ptr (P := Try.prog) (h := h_37) (s := 30) (f := 12) (by kernel_rfl) e84) ?_
              replace hF := obind_some hF; obtain ⟨v63, e85, hF⟩ := hF
              replace hF := obind_some hF; obtain ⟨t63, c86, hF⟩ := hF
              have c86 := avStr_some c86
              subst c86
              refine WL.b (some 63) (strA t63) h_37 (load_cell (P := Try.prog) (h := h_37) (t := 9) (by kernel_rfl) e85) ?_
              replace hF := obind_some hF; obtain ⟨t64, e87, hF⟩ := hF
              refine WL.b (some 64) t64 h_37 (field_ptr (P := Try.prog) (h := h_37) (s := 30) (f := 12) (by kernel_rfl) e87) ?_
              replace hF := obind_some hF; obtain ⟨v65, e88, hF⟩ := hF
              replace hF := obind_some hF; obtain ⟨t65, c89, hF⟩ := hF
              have c89 := avStr_some c89
              subst c89
              refine WL.b (some 65) (strA t65) h_37 (load_cell (P := Try.prog) (h := h_37) (t := 9) (by kernel_rfl) e88) ?_
              replace hF := lett_some hF; obtain ⟨t66, e90, hF⟩ := hF
              refine WL.val (d := (some 66)) (v := .bool t66) (h' := h_37) (by kernel_rfl) (by kernel_rfl) (val_of AV.bool e90 (by kernel_rfl)) ?_
              refine WL.a (some 67) (.bool t66) h_37 ?_
              exact WL.weaken (Fr.c (Fr.c (Fr.c Fr.n))) (J42 _ _ hF)
          cases t53 with
          | true =>
            replace hF := ifB_t hF
            refine WL.o (some 55) ?_
            refine WL.o (some 56) ?_
            refine WL.o (some 57) ?_
            refine WL.o (some 58) ?_
            refine WL.o (some 59) ?_
            refine WL.a (some 60) (.bool true) h_34 ?_
            exact WL.weaken (Fr.c (Fr.c (Fr.c Fr.n))) (J39 _ _ hF)
          | false =>
            replace hF := ifB_f hF
            replace hF := obind_some hF; obtain ⟨t55, e91, hF⟩ := hF
            refine WL.b (some 55) t55 h_34 (field_ptr (P := Try.prog) (h := h_34) (s := 30) (f := 20) (by kernel_rfl) e91) ?_
            replace hF := obind_some hF; obtain ⟨v56, e92, hF⟩ := hF
            replace hF := obind_some hF; obtain ⟨t56, c93, hF⟩ := hF
            have c93 := avInt_some c93
            subst c93
            refine WL.b (some 56) (.int .i64 t56) h_34 (load_cell (P := Try.prog) (h := h_34) (t := 3) (by kernel_rfl) e92) ?_
            replace hF := obind_some hF; obtain ⟨t57, e94, hF⟩ := hF
            refine WL.b (some 57) t57 h_34 (field_ptr (P := Try.prog) (h := h_34) (s := 30) (f := 20) (by kernel_rfl) e94) ?_
            replace hF := obind_some hF; obtain ⟨v58, e95, hF⟩ := hF
            replace hF := obind_some hF; obtain ⟨t58, c96, hF⟩ := hF
            have c96 := avInt_some c96
            subst c96
            refine WL.b (some 58) (.int .i64 t58) h_34 (load_cell (P := Try.prog) (h := h_34) (t := 3) (by kernel_rfl) e95) ?_
            replace hF := lett_some hF; obtain ⟨t59, e97, hF⟩ := hF
            refine WL.val (d := (some 59)) (v := .bool t59) (h' := h_34) (by kernel_rfl) (by kernel_rfl) (val_of AV.bool e97 (by kernel_rfl)) ?_
            refine WL.a (some 60) (.bool t59) h_34 ?_
            exact WL.weaken (Fr.c (Fr.c (Fr.c Fr.n))) (J39 _ _ hF)
        cases t46 with
        | true =>
          replace hF := ifB_t hF
          refine WL.o (some 48) ?_
          refine WL.o (some 49) ?_
          refine WL.o (some 50) ?_
          refine WL.o (some 51) ?_
          refine WL.o (some 52) ?_
          refine WL.a (some 53) (.bool true) h_31 ?_
          exact WL.weaken (Fr.c (Fr.c (Fr.c Fr.n))) (J36 _ _ hF)
        | false =>
          replace hF := ifB_f hF
          replace hF := obind_some hF; obtain ⟨t48, e98, hF⟩ := hF
          refine WL.b (some 48) t48 h_31 (field_ptr (P := Try.prog) (h := h_31) (s := 30) (f := 19) (by kernel_rfl) e98) ?_
          replace hF := obind_some hF; obtain ⟨v49, e99, hF⟩ := hF
          replace hF := obind_some hF; obtain ⟨t49, c100, hF⟩ := hF
          have c100 := avInt_some c100
          subst c100
          refine WL.b (some 49) (.int .i64 t49) h_31 (load_cell (P := Try.prog) (h := h_31) (t := 23) (by kernel_rfl) e99) ?_
          replace hF := obind_some hF; obtain ⟨t50, e101, hF⟩ := hF
          refine WL.b (some 50) t50 h_31 (field_ptr (P := Try.prog) (h := h_31) (s := 30) (f := 19) (by kernel_rfl) e101) ?_
          replace hF := obind_some hF; obtain ⟨v51, e102, hF⟩ := hF
          replace hF := obind_some hF; obtain ⟨t51, c103, hF⟩ := hF
          have c103 := avInt_some c103
          subst c103
          refine WL.b (some 51) (.int .i64 t51) h_31 (load_cell (P := Try.prog) (h := h_31) (t := 23) (by kernel_rfl) e102) ?_
          replace hF := lett_some hF; obtain ⟨t52, e104, hF⟩ := hF
          refine WL.val (d := (some 52)) (v := .bool t52) (h' := h_31) (by kernel_rfl) (by kernel_rfl) (val_of AV.bool e104 (by kernel_rfl)) ?_
          refine WL.a (some 53) (.bool t52) h_31 ?_
          exact WL.weaken (Fr.c (Fr.c (Fr.c Fr.n))) (J36 _ _ hF)
      cases t39 with
      | true =>
        replace hF := ifB_t hF
        refine WL.o (some 41) ?_
        refine WL.o (some 42) ?_
        refine WL.o (some 43) ?_
        refine WL.o (some 44) ?_
        refine WL.o (some 45) ?_
        refine WL.a (some 46) (.bool true) h_28 ?_
        exact WL.weaken (Fr.c (Fr.c (Fr.c Fr.n))) (J33 _ _ hF)
      | false =>
        replace hF := ifB_f hF
        replace hF := obind_some hF; obtain ⟨t41, e105, hF⟩ := hF
        refine WL.b (some 41) t41 h_28 (field_ptr (P := Try.prog) (h := h_28) (s := 30) (f := 18) (by kernel_rfl) e105) ?_
        replace hF := obind_some hF; obtain ⟨v42, e106, hF⟩ := hF
        replace hF := obind_some hF; obtain ⟨t42, c107, hF⟩ := hF
        have c107 := avInt_some c107
        subst c107
        refine WL.b (some 42) (.int .u8 t42) h_28 (load_cell (P := Try.prog) (h := h_28) (t := 5) (by kernel_rfl) e106) ?_
        replace hF := obind_some hF; obtain ⟨t43, e108, hF⟩ := hF
        refine WL.b (some 43) t43 h_28 (field_ptr (P := Try.prog) (h := h_28) (s := 30) (f := 18) (by kernel_rfl) e108) ?_
        replace hF := obind_some hF; obtain ⟨v44, e109, hF⟩ := hF
        replace hF := obind_some hF; obtain ⟨t44, c110, hF⟩ := hF
        have c110 := avInt_some c110
        subst c110
        refine WL.b (some 44) (.int .u8 t44) h_28 (load_cell (P := Try.prog) (h := h_28) (t := 5) (by kernel_rfl) e109) ?_
        replace hF := lett_some hF; obtain ⟨t45, e111, hF⟩ := hF
        refine WL.val (d := (some 45)) (v := .bool t45) (h' := h_28) (by kernel_rfl) (by kernel_rfl) (val_of AV.bool e111 (by kernel_rfl)) ?_
        refine WL.a (some 46) (.bool t45) h_28 ?_
        exact WL.weaken (Fr.c (Fr.c (Fr.c Fr.n))) (J33 _ _ hF)
    cases t32 with
    | true =>
      replace hF := ifB_t hF
      refine WL.o (some 34) ?_
      refine WL.o (some 35) ?_
      refine WL.o (some 36) ?_
      refine WL.o (some 37) ?_
      refine WL.o (some 38) ?_
      refine WL.a (some 39) (.bool true) h_18 ?_
      exact WL.weaken (Fr.c (Fr.c (Fr.c Fr.n))) (J30 _ _ hF)
    | false =>
      replace hF := ifB_f hF
      replace hF := obind_some hF; obtain ⟨t34, e112, hF⟩ := hF
      refine WL.b (some 34) t34 h_18 (field_ptr (P := Try.prog) (h := h_18) (s := 30) (f := 8) (by kernel_rfl) e112) ?_
      replace hF := obind_some hF; obtain ⟨v35, e113, hF⟩ := hF
      replace hF := obind_some hF; obtain ⟨t35, c114, hF⟩ := hF
      have c114 := avBool_some c114
      subst c114
      refine WL.b (some 35) (.bool t35) h_18 (load_cell (P := Try.prog) (h := h_18) (t := 4) (by kernel_rfl) e113) ?_
      replace hF := obind_some hF; obtain ⟨t36, e115, hF⟩ := hF
      refine WL.b (some 36) t36 h_18 (field_ptr (P := Try.prog) (h := h_18) (s := 30) (f := 8) (by kernel_rfl) e115) ?_
      replace hF := obind_some hF; obtain ⟨v37, e116, hF⟩ := hF
      replace hF := obind_some hF; obtain ⟨t37, c117, hF⟩ := hF
      have c117 := avBool_some c117
      subst c117
      refine WL.b (some 37) (.bool t37) h_18 (load_cell (P := Try.prog) (h := h_18) (t := 4) (by kernel_rfl) e116) ?_
      replace hF := lett_some hF; obtain ⟨t38, e118, hF⟩ := hF
      refine WL.val (d := (some 38)) (v := .bool t38) (h' := h_18) (by kernel_rfl) (by kernel_rfl) (val_of AV.bool e118 (by kernel_rfl)) ?_
      refine WL.a (some 39) (.bool t38) h_18 ?_
      exact WL.weaken (Fr.c (Fr.c (Fr.c Fr.n))) (J30 _ _ hF)
  refine W.blockK (by kernel_rfl) (fun K16 n16 s16 o16 q16 p16 => ?_)
  refine W.loopK (by kernel_rfl) (fun I119 K119 b119 n119 e119 q119 p119 => ?_)
  have L119 : ∀ (m : Nat) (t7 : Int) (h_120 : AHeap), ref17_Same_L1 r10 r12 k17 m t7 h_120 = some (rR, hR) → Go w0 m0 (Func.ntmps Try.f17) I119 [(2, v2), (3, v3), (5, r10), (6, r12), (7, .int .i64 t7)] [] h_120 := by
    intro m
    induction m with
    | zero => intro t7 h_120 hF; cases hF
    | succ m ih119 =>
      intro t7 h_120 hF
      rw [ref17_Same_L1_s] at hF; unfold ref17_Same_L1b at hF
      refine b119 ?_
      refine W.s (fun K121 n121 e121 q121 p121 => ?_)
      refine W.s (fun K122 n122 e122 q122 p122 => ?_)
      refine W.r ?_
      refine WL.a (some 13) (.int .i64 t7) h_120 ?_
      refine WL.a (some 14) r10 h_120 ?_
      replace hF := obind_some hF; obtain ⟨t15, e123, hF⟩ := hF
      refine WL.b (some 15) (.int .i64 t15) h_120 (len_row (P := Try.prog) (h := h_120) (t := 79) (e' := 3) (by kernel_rfl) e123) ?_
      replace hF := lett_some hF; obtain ⟨t16, e124, hF⟩ := hF
      refine WL.val (d := (some 16)) (v := .bool t16) (h' := h_120) (by kernel_rfl) (by kernel_rfl) (val_of AV.bool e124 (by kernel_rfl)) ?_
      refine WL.n ?_
      refine Go.weaken (l' := [(2, v2), (3, v3), (5, r10), (6, r12), (7, .int .i64 t7), (16, .bool t16)]) (Fr.c (Fr.c (Fr.c (Fr.c (Fr.c (Fr.c Fr.n)))))) ?_
      refine n122 ?_
      cases t16 with
      | true =>
        replace hF := ifB_t hF
        refine W.t ?_
        refine W.skip (by kernel_rfl) ?_
        refine n121 ?_
        refine W.s (fun K125 n125 e125 q125 p125 => ?_)
        refine W.blockK (by kernel_rfl) (fun K126 n126 s126 o126 q126 p126 => ?_)
        refine W.s (fun K127 n127 e127 q127 p127 => ?_)
        refine W.draw (by kernel_rfl) (hc.ok w0) (plan := [0, 1, 2, 3, 4, 5, 6, 7, 8]) (by kernel_rfl) (by kernel_rfl) (by kernel_rfl) ?_
        refine WD.a 0 (some 19) r10 h_120 ?_
        refine WD.a 0 (some 20) (.int .i64 t7) h_120 ?_
        replace hF := obind_some hF; obtain ⟨t21, e128, hF⟩ := hF
        refine WD.b 0 (some 21) t21 h_120 (index_row (P := Try.prog) (h := h_120) (t := 79) (e' := 3) (k := .i64) (by kernel_rfl) (by kernel_rfl) (by kernel_rfl) e128) ?_
        replace hF := obind_some hF; obtain ⟨v22, e129, hF⟩ := hF
        replace hF := obind_some hF; obtain ⟨t22, c130, hF⟩ := hF
        have c130 := avInt_some c130
        subst c130
        refine WD.b 1 (some 22) (.int .i64 t22) h_120 (load_cell (P := Try.prog) (h := h_120) (t := 3) (by kernel_rfl) e129) ?_
        refine WD.a 0 (some 23) r12 h_120 ?_
        refine WD.a 0 (some 24) (.int .i64 t7) h_120 ?_
        replace hF := obind_some hF; obtain ⟨t25, e131, hF⟩ := hF
        refine WD.b 0 (some 25) t25 h_120 (index_row (P := Try.prog) (h := h_120) (t := 79) (e' := 3) (k := .i64) (by kernel_rfl) (by kernel_rfl) (by kernel_rfl) e131) ?_
        replace hF := obind_some hF; obtain ⟨v26, e132, hF⟩ := hF
        replace hF := obind_some hF; obtain ⟨t26, c133, hF⟩ := hF
        have c133 := avInt_some c133
        subst c133
        refine WD.b 1 (some 26) (.int .i64 t26) h_120 (load_cell (P := Try.prog) (h := h_120) (t := 3) (by kernel_rfl) e132) ?_
        replace hF := lett_some hF; obtain ⟨t27, e134, hF⟩ := hF
        refine WD.val (d := (some 27)) (v := .bool t27) (h' := h_120) (by kernel_rfl) (by kernel_rfl) (val_of AV.bool e134 (by kernel_rfl)) (k := 0) (by kernel_rfl) (fun e => absurd e (by decide)) (by decide) ?_
        refine WD.nil ?_
        refine Go.weaken (l' := [(2, v2), (3, v3), (5, r10), (6, r12), (7, .int .i64 t7), (27, .bool t27)]) (Fr.c (Fr.c (Fr.c (Fr.c (Fr.c (Fr.c Fr.n)))))) ?_
        refine n127 ?_
        cases t27 with
        | true =>
          replace hF := ifB_t hF
          refine W.t ?_
          refine W.s (fun K135 n135 e135 q135 p135 => ?_)
          refine W.r ?_
          refine WL.a (some 4) (.bool false) h_120 ?_
          refine WL.n ?_
          refine Go.weaken (l' := [(4, .bool false)]) (Fr.c Fr.n) ?_
          refine n135 ?_
          refine W.ret (by kernel_rfl) ?_
          refine q126 ?_
          refine q125 ?_
          refine q119 ?_
          refine q16 ?_
          refine q14 ?_
          obtain ⟨hF, hF2⟩ := ret_inj hF; subst hF; subst hF2
          exact leave_of (rs := [.tmp 4]) (vs := [.bool false]) (by kernel_rfl) (res_tmp (by kernel_rfl) res_nil) (by kernel_rfl)
        | false =>
          replace hF := ifB_f hF
          refine W.f ?_
          refine W.skip (by kernel_rfl) ?_
          refine n126 ?_
          refine n125 ?_
          refine W.r ?_
          refine WL.a (some 17) (.int .i64 t7) h_120 ?_
          replace hF := lett_some hF; obtain ⟨t18, e136, hF⟩ := hF
          refine WL.val (d := (some 18)) (v := .int .i64 t18) (h' := h_120) (by kernel_rfl) (by kernel_rfl) (val_of (AV.int .i64) e136 (by kernel_rfl)) ?_
          refine WL.a (some 7) (.int .i64 t18) h_120 ?_
          refine WL.n ?_
          refine Go.weaken (l' := [(2, v2), (3, v3), (5, r10), (6, r12), (7, .int .i64 t18)]) (Fr.c (Fr.c (Fr.c (Fr.c (Fr.c Fr.n))))) ?_
          refine n119 ?_
          exact Go.weaken (Fr.c (Fr.c (Fr.c (Fr.c (Fr.c Fr.n))))) (ih119 _ _ hF)
      | false =>
        replace hF := ifB_f hF
        refine W.f ?_
        refine W.exit (by kernel_rfl) ?_
        refine e121 ?_
        refine e119 ?_
        refine s16 (by kernel_rfl) ?_
        exact Go.weaken (Fr.c (Fr.c Fr.n)) (J17 _ hF)
  exact Go.weaken (Fr.c (Fr.c (Fr.c (Fr.c (Fr.c Fr.n))))) (L119 _ _ _ hF)
noncomputable def ref17_Same_fn (call : CallF) (n : Nat) : FnT := fun args h => match args with
  | [x0, x1] => obind (avAgg x0) fun t0 => obind (avAgg x1) fun t1 => ref17_Same call n t0 t1 h
  | _ => none
set_option maxRecDepth 100000 in
theorem ref17_Same_fn_eq (call : CallF) (n : Nat) (t0 : List AV) (t1 : List AV) (h : AHeap) : ref17_Same_fn call n [.agg t0, .agg t1] h = ref17_Same call n t0 t1 h :=
  (Eq.trans (obind_eq (fun t0 => obind (avAgg (.agg t1)) fun t1 => ref17_Same call n t0 t1 h) (avAgg_agg t0)) (Eq.trans (obind_eq (fun t1 => ref17_Same call n t0 t1 h) (avAgg_agg t1)) rfl))
theorem ref17_Same_holds {call : CallF} (hc : SaysAll Try.prog call) (n : Nat) : Holds Try.prog 17 (ref17_Same_fn call n) := by
  intro args h r h2 e
  unfold ref17_Same_fn at e
  split at e
  · replace e := obind_some e; obtain ⟨t0, c0, e⟩ := e; have c0 := avAgg_some c0; subst c0
    replace e := obind_some e; obtain ⟨t1, c1, e⟩ := e; have c1 := avAgg_some c1; subst c1
    exact ref17_Same_ok hc e
  · cases e

end Go.Proofs.Ytmibgiblejpgdaa
