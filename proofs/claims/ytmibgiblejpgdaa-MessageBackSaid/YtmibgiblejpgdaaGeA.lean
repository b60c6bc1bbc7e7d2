/- Plain functions in place of the program's, and that their calls come to what they say. -/
import Derived.Test.YtmibgiblejpgdaaFrame
import Derived.Test.YtmibgiblejpgdaaAbs50
namespace Go.Proofs.Ytmibgiblejpgdaa
open Go.RowKit Abs

noncomputable def message_numbers (_ : CallF) (_ : Nat) (t0 : AV) (h : AHeap) : R :=
  lett (newH h 62 [.nilp, .nilp, .nilp, .nilp, .nilp, .nilp, .nilp, .nilp, .nilp, .nilp, .nilp, .nilp, .nilp, .nilp, .nilp]) fun h_2 =>
  obind (nilC t0) fun t4 =>
  obind (fldP 1 t4) fun t5 =>
  obind (nilC t0) fun t7 =>
  obind (fldP 2 t7) fun t8 =>
  obind (nilC t0) fun t10 =>
  obind (fldP 3 t10) fun t11 =>
  obind (nilC t0) fun t13 =>
  obind (fldP 4 t13) fun t14 =>
  obind (nilC t0) fun t16 =>
  obind (fldP 5 t16) fun t17 =>
  obind (nilC t0) fun t19 =>
  obind (fldP 6 t19) fun t20 =>
  obind (nilC t0) fun t22 =>
  obind (fldP 7 t22) fun t23 =>
  obind (nilC t0) fun t25 =>
  obind (fldP 10 t25) fun t26 =>
  obind (nilC t0) fun t28 =>
  obind (fldP 11 t28) fun t29 =>
  obind (nilC t0) fun t31 =>
  obind (fldP 13 t31) fun t32 =>
  obind (nilC t0) fun t34 =>
  obind (fldP 14 t34) fun t35 =>
  obind (fldP 0 t35) fun t36 =>
  obind (nilC t0) fun t38 =>
  obind (fldP 14 t38) fun t39 =>
  obind (fldP 1 t39) fun t40 =>
  obind (nilC t0) fun t42 =>
  obind (fldP 16 t42) fun t43 =>
  obind (nilC t0) fun t45 =>
  obind (fldP 17 t45) fun t46 =>
  obind (nilC t0) fun t48 =>
  obind (fldP 18 t48) fun t49 =>
  obind (bldS Try.prog 62 [(0, t5), (1, t8), (2, t11), (3, t14), (4, t17), (5, t20), (6, t23), (7, t26), (8, t29), (9, t32), (10, t36), (11, t40), (12, t43), (13, t46), (14, t49)]) fun t50 =>
  obind (stRow h_2 15 t50 (newP h)) fun h_38 =>
  obind (ldRow h_38 15 (newP h)) fun w2 =>
  some (.ret (.agg w2), h_38)
set_option maxHeartbeats 4000000 in
set_option maxRecDepth 20000 in
theorem message_numbers_ok {call : CallF} (hc : SaysAll Try.prog call) {n : Nat} {t0 : AV} {h : AHeap} {rR : ARes} {hR : AHeap} (hF : message_numbers call n t0 h = some (rR, hR)) : Says Try.prog 23 [t0] h rR hR := by
  unfold message_numbers at hF
  refine says_of (fn := Try.f23) Try.func23 (c := codeOf Try.f23) (by kernel_rfl) (by kernel_rfl) (fun w0 m0 => ?_)
  refine W.weaken (l' := [(0, t0)]) (Fr.c Fr.n) ?_
  refine W.s (fun K1 n1 e1 q1 p1 => ?_)
  refine W.r ?_
  replace hF := lett_some hF; obtain ⟨h_2, e3, hF⟩ := hF
  refine WL.val (d := (some 2)) (v := (newP h)) (h' := h_2) (by kernel_rfl) (by kernel_rfl) (val_ofH e3 (by kernel_rfl)) ?_
  refine WL.n ?_
  refine Go.weaken (l' := [(0, t0), (2, (newP h))]) (Fr.c (Fr.c Fr.n)) ?_
  refine n1 ?_
  refine W.s (fun K4 n4 e4 q4 p4 => ?_)
  refine W.draw (by kernel_rfl) (hc.ok w0) (plan := [0, 1, 2, 3, 4, 5, 6, 7, 8, 9, 10, 11, 12, 13, 14, 15, 16, 17, 18, 19, 20, 21, 22, 23, 24, 25, 26, 27, 28, 29, 30, 31, 32, 33, 34, 35, 36, 37, 38, 39, 40, 41, 42, 43, 44, 45, 46, 47, 48]) (by kernel_rfl) (by kernel_rfl) (by kernel_rfl) ?_
  refine WD.a 0 (some 3) t0 h_2 ?_
  replace hF := obind_some hF; obtain ⟨t4, e5, hF⟩ := hF
  refine WD.b 0 (some 4) t4 h_2 (nil_chk (h := h_2) e5) ?_
  replace hF := obind_some hF; obtain ⟨t5, e6, hF⟩ := hF
  refine WD.b 0 (some 5) t5 h_2 (field_ptr (P := Try.prog) (h := h_2) (s := 30) (f := 1) (by kernel_rfl) e6) ?_
  refine WD.a 0 (some 6) t0 h_2 ?_
  replace hF := obind_some hF; obtain ⟨t7, e7, hF⟩ := hF
  refine WD.b 0 (some 7) t7 h_2 (nil_chk (h := h_2) e7) ?_
  replace hF := obind_some hF; obtain ⟨t8, e8, hF⟩ := hF
  refine WD.b 0 (some 8) t8 h_2 (field_ptr (P := Try.prog) (h := h_2) (s := 30) (f := 2) (by kernel_rfl) e8) ?_
  refine WD.a 0 (some 9) t0 h_2 ?_
  replace hF := obind_some hF; obtain ⟨t10, e9, hF⟩ := hF
  refine WD.b 0 (some 10) t10 h_2 (nil_chk (h := h_2) e9) ?_
  replace hF := obind_some hF; obtain ⟨t11, e10, hF⟩ := hF
  refine WD.b 0 (some 11) t11 h_2 (field_ptr (P := Try.prog) (h := h_2) (s := 30) (f := 3) (by kernel_rfl) e10) ?_
  refine WD.a 0 (some 12) t0 h_2 ?_
  replace hF := obind_some hF; obtain ⟨t13, e11, hF⟩ := hF
  refine WD.b 0 (some 13) t13 h_2 (nil_chk (h := h_2) e11) ?_
  replace hF := obind_some hF; obtain ⟨t14, e12, hF⟩ := hF
  refine WD.b 0 (some 14) t14 h_2 (field_ptr (P := Try.prog) (h := h_2) (s := 30) (f := 4) (by kernel_rfl) e12) ?_
  refine WD.a 0 (some 15) t0 h_2 ?_
  replace hF := obind_some hF; obtain ⟨t16, e13, hF⟩ := hF
  refine WD.b 0 (some 16) t16 h_2 (nil_chk (h := h_2) e13) ?_
  replace hF := obind_some hF; obtain ⟨t17, e14, hF⟩ := hF
  refine WD.b 0 (some 17) t17 h_2 (field_ptr (P := Try.prog) (h := h_2) (s := 30) (f := 5) (by kernel_rfl) e14) ?_
  refine WD.a 0 (some 18) t0 h_2 ?_
  replace hF := obind_some hF; obtain ⟨t19, e15, hF⟩ := hF
  refine WD.b 0 (some 19) t19 h_2 (nil_chk (h := h_2) e15) ?_
  replace hF := obind_some hF; obtain ⟨t20, e16, hF⟩ := hF
  refine WD.b 0 (some 20) t20 h_2 (field_ptr (P := Try.prog) (h := h_2) (s := 30) (f := 6) (by kernel_rfl) e16) ?_
  refine WD.a 0 (some 21) t0 h_2 ?_
  replace hF := obind_some hF; obtain ⟨t22, e17, hF⟩ := hF
  refine WD.b 0 (some 22) t22 h_2 (nil_chk (h := h_2) e17) ?_
  replace hF := obind_some hF; obtain ⟨t23, e18, hF⟩ := hF
  refine WD.b 0 (some 23) t23 h_2 (field_ptr (P := Try.prog) (h := h_2) (s := 30) (f := 7) (by kernel_rfl) e18) ?_
  refine WD.a 0 (some 24) t0 h_2 ?_
  replace hF := obind_some hF; obtain ⟨t25, e19, hF⟩ := hF
  refine WD.b 0 (some 25) t25 h_2 (nil_chk (h := h_2) e19) ?_
  replace hF := obind_some hF; obtain ⟨t26, e20, hF⟩ := hF
  refine WD.b 0 (some 26) t26 h_2 (field_ptr (P := Try.prog) (h := h_2) (s := 30) (f := 10) (by kernel_rfl) e20) ?_
  refine WD.a 0 (some 27) t0 h_2 ?_
  replace hF := obind_some hF; obtain ⟨t28, e21, hF⟩ := hF
  refine WD.b 0 (some 28) t28 h_2 (nil_chk (h := h_2) e21) ?_
  replace hF := obind_some hF; obtain ⟨t29, e22, hF⟩ := hF
  refine WD.b 0 (some 29) t29 h_2 (field_ptr (P := Try.prog) (h := h_2) (s := 30) (f := 11) (by kernel_rfl) e22) ?_
  refine WD.a 0 (some 30) t0 h_2 ?_
  replace hF := obind_some hF; obtain ⟨t31, e23, hF⟩ := hF
  refine WD.b 0 (some 31) t31 h_2 (nil_chk (h := h_2) e23) ?_
  replace hF := obind_some hF; obtain ⟨t32, e24, hF⟩ := hF
  refine WD.b 0 (some 32) t32 h_2 (field_ptr (P := Try.prog) (h := h_2) (s := 30) (f := 13) (by kernel_rfl) e24) ?_
  refine WD.a 0 (some 33) t0 h_2 ?_
  replace hF := obind_some hF; obtain ⟨t34, e25, hF⟩ := hF
  refine WD.b 0 (some 34) t34 h_2 (nil_chk (h := h_2) e25) ?_
  replace hF := obind_some hF; obtain ⟨t35, e26, hF⟩ := hF
  refine WD.b 0 (some 35) t35 h_2 (field_ptr (P := Try.prog) (h := h_2) (s := 30) (f := 14) (by kernel_rfl) e26) ?_
  replace hF := obind_some hF; obtain ⟨t36, e27, hF⟩ := hF
  refine WD.b 0 (some 36) t36 h_2 (field_ptr (P := Try.prog) (h := h_2) (s := 28) (f := 0) (by kernel_rfl) e27) ?_
  refine WD.a 0 (some 37) t0 h_2 ?_
  replace hF := obind_some hF; obtain ⟨t38, e28, hF⟩ := hF
  refine WD.b 0 (some 38) t38 h_2 (nil_chk (h := h_2) e28) ?_
  replace hF := obind_some hF; obtain ⟨t39, e29, hF⟩ := hF
  refine WD.b 0 (some 39) t39 h_2 (field_ptr (P := Try.prog) (h := h_2) (s := 30) (f := 14) (by kernel_rfl) e29) ?_
  replace hF := obind_some hF; obtain ⟨t40, e30, hF⟩ := hF
  refine WD.b 0 (some 40) t40 h_2 (field_ptr (P := Try.prog) (h := h_2) (s := 28) (f := 1) (by kernel_rfl) e30) ?_
  refine WD.a 0 (some 41) t0 h_2 ?_
  replace hF := obind_some hF; obtain ⟨t42, e31, hF⟩ := hF
  refine WD.b 0 (some 42) t42 h_2 (nil_chk (h := h_2) e31) ?_
  replace hF := obind_some hF; obtain ⟨t43, e32, hF⟩ := hF
  refine WD.b 0 (some 43) t43 h_2 (field_ptr (P := Try.prog) (h := h_2) (s := 30) (f := 15) (by kernel_rfl) e32) ?_
  refine WD.a 0 (some 44) t0 h_2 ?_
  replace hF := obind_some hF; obtain ⟨t45, e33, hF⟩ := hF
  refine WD.b 0 (some 45) t45 h_2 (nil_chk (h := h_2) e33) ?_
  replace hF := obind_some hF; obtain ⟨t46, e34, hF⟩ := hF
  refine WD.b 0 (some 46) t46 h_2 (field_ptr (P := Try.prog) (h := h_2) (s := 30) (f := 16) (by kernel_rfl) e34) ?_
  refine WD.a 0 (some 47) t0 h_2 ?_
  replace hF := obind_some hF; obtain ⟨t48, e35, hF⟩ := hF
  refine WD.b 0 (some 48) t48 h_2 (nil_chk (h := h_2) e35) ?_
  replace hF := obind_some hF; obtain ⟨t49, e36, hF⟩ := hF
  refine WD.b 0 (some 49) t49 h_2 (field_ptr (P := Try.prog) (h := h_2) (s := 30) (f := 17) (by kernel_rfl) e36) ?_
  replace hF := obind_some hF; obtain ⟨t50, e37, hF⟩ := hF
  refine WD.val (d := (some 50)) (v := .agg t50) (h' := h_2) (by kernel_rfl) (by kernel_rfl) (bld_ok (by kernel_rfl) e37) (k := 0) (by kernel_rfl) (fun e => absurd e (by decide)) (by decide) ?_
  replace hF := obind_some hF; obtain ⟨h_38, e39, hF⟩ := hF
  refine WD.eff (h' := h_38) (by kernel_rfl) (by kernel_rfl) (Eq.trans (by kernel_rfl) (store_row (P := Try.prog) (h := h_2) (t := 62) (v := (.agg t50)) (by kernel_rfl) (by kernel_rfl) e39)) (k := 2) (by kernel_rfl) (fun _ => (by kernel_rfl)) (by decide) ?_
  refine WD.nil ?_
  refine Go.weaken (l' := [(2, (newP h))]) (Fr.c Fr.n) ?_
  refine n4 ?_
  refine W.ret (by kernel_rfl) ?_
  replace hF := obind_some hF; obtain ⟨w2, e40, hF⟩ := hF
  obtain ⟨hF, hF2⟩ := ret_inj hF; subst hF; subst hF2
  exact leave_of (rs := [.cell 2 62]) (vs := [.agg w2]) (by kernel_rfl) (res_cell (by kernel_rfl) (load_row (P := Try.prog) (h := h_38) (t := 62) (by kernel_rfl) (by kernel_rfl) e40) res_nil) (by kernel_rfl)
noncomputable def message_numbers_fn (call : CallF) (n : Nat) : FnT := fun args h => match args with
  | [x0] => message_numbers call n x0 h
  | _ => none
set_option maxRecDepth 100000 in
theorem message_numbers_fn_eq (call : CallF) (n : Nat) (t0 : AV) (h : AHeap) : message_numbers_fn call n [t0] h = message_numbers call n t0 h :=
  rfl
theorem message_numbers_holds {call : CallF} (hc : SaysAll Try.prog call) (n : Nat) : Holds Try.prog 23 (message_numbers_fn call n) := by
  intro args h r h2 e
  unfold message_numbers_fn at e
  split at e
  · exact message_numbers_ok hc e
  · cases e

noncomputable def message_numbersRight_L0b (call : CallF) (t7 : List AV) (k8 : AHeap → R) (self : Int → AHeap → R) (t8 : Int) (h_12 : AHeap) : R :=
  lett (decide (t8 < 15)) fun (t9 : Bool) =>
  ifB t9
  (
    outK (opIndex Try.prog h_12 62 (some (.agg t7)) (some (.int .i64 t8))) fun v11 h_19 =>
    lett (decide (t8 < 2)) fun (t13 : Bool) =>
    lett (fun (t5 : Int) (h_26 : AHeap) =>
      obind (nilC v11) fun t15 =>
      obind (ldCell h_26 t15) fun v16 =>
      obind (avInt .i64 v16) fun t16 =>
      callN (call 32 [.int .i64 t16, .int .i64 t5] h_26) fun r18 h_31 =>
      obind (avBool r18) fun t18 =>
      lett (!t18) fun (t19 : Bool) =>
      ifB t19
      (
        some (.ret (.bool false), h_31))
      (
        lett (IntKind.i64.wrap (t8 + 1)) fun (t20 : Int) =>
        self t20 h_31)) fun k25 =>
    ifB t13
    (
      k25 15 h_19)
    (
      k25 1125899906842624 h_19))
  (
    k8 h_12)
noncomputable def message_numbersRight_L0 (call : CallF) (t7 : List AV) (k8 : AHeap → R) : Nat → Int → AHeap → R := iterR (fun _ _ => none) (message_numbersRight_L0b call t7 k8)
theorem message_numbersRight_L0_s (call : CallF) (t7 : List AV) (k8 : AHeap → R) (m : Nat) : message_numbersRight_L0 call t7 k8 (m + 1) = message_numbersRight_L0b call t7 k8 (message_numbersRight_L0 call t7 k8 m) := rfl
noncomputable def message_numbersRight (call : CallF) (n : Nat) (t0 : AV) (h : AHeap) : R :=
  callN (call 23 [t0] h) fun r7 h_4 =>
  obind (avAgg r7) fun t7 =>
  lett (fun  (h_9 : AHeap) =>
    some (.ret (.bool true), h_9)) fun k8 =>
  message_numbersRight_L0 call t7 k8 n 0 h_4
set_option maxHeartbeats 4000000 in
set_option maxRecDepth 20000 in
theorem message_numbersRight_ok {call : CallF} (hc : SaysAll Try.prog call) {n : Nat} {t0 : AV} {h : AHeap} {rR : ARes} {hR : AHeap} (hF : message_numbersRight call n t0 h = some (rR, hR)) : Says Try.prog 33 [t0] h rR hR := by
  unfold message_numbersRight at hF
  refine says_of (fn := Try.f33) Try.func33 (c := codeOf Try.f33) (by kernel_rfl) (by kernel_rfl) (fun w0 m0 => ?_)
  refine W.weaken (l' := [(0, t0)]) (Fr.c Fr.n) ?_
  refine W.s (fun K1 n1 e1 q1 p1 => ?_)
  refine W.r ?_
  refine WL.a (some 2) (.bool false) h ?_
  refine WL.n ?_
  refine Go.weaken (l' := [(0, t0)]) (Fr.c Fr.n) ?_
  refine n1 ?_
  refine W.s (fun K2 n2 e2 q2 p2 => ?_)
  refine W.s (fun K3 n3 e3 q3 p3 => ?_)
  refine W.r ?_
  refine WL.a (some 6) t0 h ?_
  replace hF := callN_some hF; obtain ⟨r7, h_4, e5, hF⟩ := hF
  replace hF := obind_some hF; obtain ⟨t7, c6, hF⟩ := hF
  have c6 := avAgg_some c6
  subst c6
  refine WL.c (hc.ok w0) (some 7) e5 ?_
  refine WL.a (some 8) (.int .i64 0) h_4 ?_
  refine WL.n ?_
  refine Go.weaken (l' := [(7, .agg t7), (8, .int .i64 0)]) (Fr.c (Fr.c Fr.n)) ?_
  refine n3 ?_
  replace hF := lett_some hF; obtain ⟨k8, e8, hF⟩ := hF
  have J8 : ∀  (h_9 : AHeap), k8 h_9 = some (rR, hR) → Go w0 m0 (Func.ntmps Try.f33) (K2 .normal) [] [] h_9 := by
    intro  h_9 hF
    rw [e8] at hF
    refine n2 ?_
    refine W.s (fun K10 n10 e10 q10 p10 => ?_)
    refine W.r ?_
    refine WL.a (some 2) (.bool true) h_9 ?_
    refine WL.n ?_
    refine Go.weaken (l' := [(2, .bool true)]) (Fr.c Fr.n) ?_
    refine n10 ?_
    refine W.ret (by kernel_rfl) ?_
    obtain ⟨hF, hF2⟩ := ret_inj hF; subst hF; subst hF2
    exact leave_of (rs := [.tmp 2]) (vs := [.bool true]) (by kernel_rfl) (res_tmp (by kernel_rfl) res_nil) (by kernel_rfl)
  refine W.blockK (by kernel_rfl) (fun K7 n7 s7 o7 q7 p7 => ?_)
  refine W.loopK (by kernel_rfl) (fun I11 K11 b11 n11 e11 q11 p11 => ?_)
  have L11 : ∀ (m : Nat) (t8 : Int) (h_12 : AHeap), message_numbersRight_L0 call t7 k8 m t8 h_12 = some (rR, hR) → Go w0 m0 (Func.ntmps Try.f33) I11 [(7, .agg t7), (8, .int .i64 t8)] [] h_12 := by
    intro m
    induction m with
    | zero => intro t8 h_12 hF; cases hF
    | succ m ih11 =>
      intro t8 h_12 hF
      rw [message_numbersRight_L0_s] at hF; unfold message_numbersRight_L0b at hF
      refine b11 ?_
      refine W.s (fun K13 n13 e13 q13 p13 => ?_)
      refine W.r ?_
      replace hF := lett_some hF; obtain ⟨t9, e14, hF⟩ := hF
      refine WL.val (d := (some 9)) (v := .bool t9) (h' := h_12) (by kernel_rfl) (by kernel_rfl) (val_of AV.bool e14 (by kernel_rfl)) ?_
      refine WL.n ?_
      refine Go.weaken (l' := [(7, .agg t7), (8, .int .i64 t8), (9, .bool t9)]) (Fr.c (Fr.c (Fr.c Fr.n))) ?_
      refine n13 ?_
      refine W.s (fun K15 n15 e15 q15 p15 => ?_)
      cases t9 with
      | true =>
        replace hF := ifB_t hF
        refine W.t ?_
        refine W.skip (by kernel_rfl) ?_
        refine n15 ?_
        refine W.s (fun K16 n16 e16 q16 p16 => ?_)
        refine W.blockK (by kernel_rfl) (fun K17 n17 s17 o17 q17 p17 => ?_)
        refine W.s (fun K18 n18 e18 q18 p18 => ?_)
        refine W.r ?_
        refine WL.a (some 10) (.int .i64 t8) h_12 ?_
        replace hF := outK_some hF; obtain ⟨v11, h_19, e20, hF⟩ := hF
        refine WL.b (some 11) v11 h_19 e20 ?_
        refine WL.a (some 3) (.int .i64 t8) h_19 ?_
        refine WL.a (some 4) v11 h_19 ?_
        refine WL.n ?_
        refine Go.weaken (l' := [(3, .int .i64 t8), (4, v11), (7, .agg t7), (8, .int .i64 t8)]) (Fr.c (Fr.c (Fr.c (Fr.c Fr.n)))) ?_
        refine n18 ?_
        refine W.s (fun K21 n21 e21 q21 p21 => ?_)
        refine W.r ?_
        refine WL.a (some 5) (.int .i64 1125899906842624) h_19 ?_
        refine WL.n ?_
        refine Go.weaken (l' := [(3, .int .i64 t8), (4, v11), (5, .int .i64 1125899906842624), (7, .agg t7), (8, .int .i64 t8)]) (Fr.c (Fr.c (Fr.c (Fr.c (Fr.c Fr.n))))) ?_
        refine n21 ?_
        refine W.s (fun K22 n22 e22 q22 p22 => ?_)
        refine W.s (fun K23 n23 e23 q23 p23 => ?_)
        refine W.r ?_
        refine WL.a (some 12) (.int .i64 t8) h_19 ?_
        replace hF := lett_some hF; obtain ⟨t13, e24, hF⟩ := hF
        refine WL.val (d := (some 13)) (v := .bool t13) (h' := h_19) (by kernel_rfl) (by kernel_rfl) (val_of AV.bool e24 (by kernel_rfl)) ?_
        refine WL.n ?_
        refine Go.weaken (l' := [(4, v11), (5, .int .i64 1125899906842624), (7, .agg t7), (8, .int .i64 t8), (13, .bool t13)]) (Fr.c (Fr.c (Fr.c (Fr.c (Fr.c Fr.n))))) ?_
        refine n23 ?_
        replace hF := lett_some hF; obtain ⟨k25, e25, hF⟩ := hF
        have J25 : ∀ (t5 : Int) (h_26 : AHeap), k25 t5 h_26 = some (rR, hR) → Go w0 m0 (Func.ntmps Try.f33) (K22 .normal) [(4, v11), (5, .int .i64 t5), (7, .agg t7), (8, .int .i64 t8)] [] h_26 := by
          intro t5 h_26 hF
          rw [e25] at hF
          refine n22 ?_
          refine W.s (fun K27 n27 e27 q27 p27 => ?_)
          refine W.r ?_
          refine WL.a (some 14) v11 h_26 ?_
          replace hF := obind_some hF; obtain ⟨t15, e28, hF⟩ := hF
          refine WL.b (some 15) t15 h_26 (nil_chk (h := h_26) e28) ?_
          replace hF := obind_some hF; obtain ⟨v16, e29, hF⟩ := hF
          replace hF := obind_some hF; obtain ⟨t16, c30, hF⟩ := hF
          have c30 := avInt_some c30
          subst c30
          refine WL.b (some 16) (.int .i64 t16) h_26 (load_cell (P := Try.prog) (h := h_26) (t := 3) (by kernel_rfl) e29) ?_
          refine WL.a (some 17) (.int .i64 t5) h_26 ?_
          replace hF := callN_some hF; obtain ⟨r18, h_31, e32, hF⟩ := hF
          replace hF := obind_some hF; obtain ⟨t18, c33, hF⟩ := hF
          have c33 := avBool_some c33
          subst c33
          refine WL.c (hc.ok w0) (some 18) e32 ?_
          replace hF := lett_some hF; obtain ⟨t19, e34, hF⟩ := hF
          refine WL.val (d := (some 19)) (v := .bool t19) (h' := h_31) (by kernel_rfl) (by kernel_rfl) (val_of AV.bool e34 (by kernel_rfl)) ?_
          refine WL.n ?_
          refine Go.weaken (l' := [(7, .agg t7), (8, .int .i64 t8), (19, .bool t19)]) (Fr.c (Fr.c (Fr.c Fr.n))) ?_
          refine n27 ?_
          cases t19 with
          | true =>
            replace hF := ifB_t hF
            refine W.t ?_
            refine W.s (fun K35 n35 e35 q35 p35 => ?_)
            refine W.r ?_
            refine WL.a (some 2) (.bool false) h_31 ?_
            refine WL.n ?_
            refine Go.weaken (l' := [(2, .bool false)]) (Fr.c Fr.n) ?_
            refine n35 ?_
            refine W.ret (by kernel_rfl) ?_
            refine q17 ?_
            refine q16 ?_
            refine q11 ?_
            refine q7 ?_
            refine q2 ?_
            obtain ⟨hF, hF2⟩ := ret_inj hF; subst hF; subst hF2
            exact leave_of (rs := [.tmp 2]) (vs := [.bool false]) (by kernel_rfl) (res_tmp (by kernel_rfl) res_nil) (by kernel_rfl)
          | false =>
            replace hF := ifB_f hF
            refine W.f ?_
            refine W.skip (by kernel_rfl) ?_
            refine n17 ?_
            refine n16 ?_
            refine W.r ?_
            replace hF := lett_some hF; obtain ⟨t20, e36, hF⟩ := hF
            refine WL.val (d := (some 20)) (v := .int .i64 t20) (h' := h_31) (by kernel_rfl) (by kernel_rfl) (val_of (AV.int .i64) e36 (by kernel_rfl)) ?_
            refine WL.a (some 8) (.int .i64 t20) h_31 ?_
            refine WL.n ?_
            refine Go.weaken (l' := [(7, .agg t7), (8, .int .i64 t20)]) (Fr.c (Fr.c Fr.n)) ?_
            refine n11 ?_
            exact Go.weaken (Fr.c (Fr.c Fr.n)) (ih11 _ _ hF)
        cases t13 with
        | true =>
          replace hF := ifB_t hF
          refine W.t ?_
          refine W.r ?_
          refine WL.a (some 5) (.int .i64 15) h_19 ?_
          refine WL.n ?_
          refine Go.weaken (l' := [(4, v11), (5, .int .i64 15), (7, .agg t7), (8, .int .i64 t8)]) (Fr.c (Fr.c (Fr.c (Fr.c Fr.n)))) ?_
          exact Go.weaken (Fr.c (Fr.c (Fr.c (Fr.c Fr.n)))) (J25 _ _ hF)
        | false =>
          replace hF := ifB_f hF
          refine W.f ?_
          refine W.skip (by kernel_rfl) ?_
          exact Go.weaken (Fr.c (Fr.c (Fr.c (Fr.c Fr.n)))) (J25 _ _ hF)
      | false =>
        replace hF := ifB_f hF
        refine W.f ?_
        refine W.exit (by kernel_rfl) ?_
        refine e15 ?_
        refine e11 ?_
        refine s7 (by kernel_rfl) ?_
        exact Go.weaken Fr.n (J8 _ hF)
  exact Go.weaken (Fr.c (Fr.c Fr.n)) (L11 _ _ _ hF)
noncomputable def message_numbersRight_fn (call : CallF) (n : Nat) : FnT := fun args h => match args with
  | [x0] => message_numbersRight call n x0 h
  | _ => none
set_option maxRecDepth 100000 in
theorem message_numbersRight_fn_eq (call : CallF) (n : Nat) (t0 : AV) (h : AHeap) : message_numbersRight_fn call n [t0] h = message_numbersRight call n t0 h :=
  rfl
theorem message_numbersRight_holds {call : CallF} (hc : SaysAll Try.prog call) (n : Nat) : Holds Try.prog 33 (message_numbersRight_fn call n) := by
  intro args h r h2 e
  unfold message_numbersRight_fn at e
  split at e
  · exact message_numbersRight_ok hc e
  · cases e

noncomputable def message_Check_L0b (call : CallF) (v44 : AV) (t45 : Int) (k43 : AHeap → R) (self : Int → Int → AHeap → R) (t3 : Int) (t46 : Int) (h_47 : AHeap) : R :=
  lett (decide (t46 < t45)) fun (t47 : Bool) =>
  ifB t47
  (
    obind (idxP 2 v44 t46) fun t48 =>
    obind (ldRow h_47 2 t48) fun t49 =>
    lett (newH h_47 42 [.int .i64 0, .str 0 0]) fun h_56 =>
    obind (stRow h_56 2 t49 (newP h_47)) fun h_58 =>
    obind (ldCell h_58 (AV.ptr (AHeap.next h_47) 0)) fun v51 =>
    obind (avInt .i64 v51) fun t51 =>
    callN (call 32 [.int .i64 t51, .int .i64 1125899906842624] h_58) fun r52 h_64 =>
    obind (avBool r52) fun t52 =>
    lett (!t52) fun (t53 : Bool) =>
    ifB t53
    (
      some (.ret (.int .i64 2), h_64))
    (
      obind (ldCell h_64 (AV.ptr (AHeap.next h_47) 1)) fun v56 =>
      obind (avStr v56) fun t56 =>
      lett (IntKind.i64.wrap (t3 + (lenS t56))) fun (t58 : Int) =>
      lett (decide (t58 > 3500)) fun (t60 : Bool) =>
      ifB t60
      (
        some (.ret (.int .i64 3), h_64))
      (
        lett (IntKind.i64.wrap (t46 + 1)) fun (t61 : Int) =>
        self t58 t61 h_64)))
  (
    k43 h_47)
noncomputable def message_Check_L0 (call : CallF) (v44 : AV) (t45 : Int) (k43 : AHeap → R) : Nat → Int → Int → AHeap → R := iterR (fun _ _ _ => none) (message_Check_L0b call v44 t45 k43)
theorem message_Check_L0_s (call : CallF) (v44 : AV) (t45 : Int) (k43 : AHeap → R) (m : Nat) : message_Check_L0 call v44 t45 k43 (m + 1) = message_Check_L0b call v44 t45 k43 (message_Check_L0 call v44 t45 k43 m) := rfl
noncomputable def message_Check (call : CallF) (n : Nat) (t0 : List AV) (h : AHeap) : R :=
  outK (opBox h 30 (some (.agg t0))) fun v1 h_2 =>
  obind (fldP 0 v1) fun t6 =>
  obind (ldCell h_2 t6) fun v7 =>
  obind (avInt .u8 v7) fun t7 =>
  lett (decide (t7 < 1)) fun (t8 : Bool) =>
  lett (fun (t13 : Bool) (h_10 : AHeap) =>
    lett (fun (t19 : Bool) (h_13 : AHeap) =>
      lett (fun (t25 : Bool) (h_16 : AHeap) =>
        lett (fun (t29 : Bool) (h_19 : AHeap) =>
          ifB t29
          (
            some (.ret (.int .i64 2), h_19))
          (
            obind (fldP 9 v1) fun t30 =>
            obind (ldCell h_19 t30) fun v31 =>
            obind (lenL v31) fun t32 =>
            lett (decide (t32 > 4)) fun (t33 : Bool) =>
            lett (fun (t39 : Bool) (h_29 : AHeap) =>
              ifB t39
              (
                some (.ret (.int .i64 3), h_29))
              (
                obind (fldP 12 v1) fun t40 =>
                obind (ldCell h_29 t40) fun v41 =>
                obind (avStr v41) fun t41 =>
                obind (fldP 9 v1) fun t43 =>
                obind (ldCell h_29 t43) fun v44 =>
                obind (lenL v44) fun t45 =>
                lett (fun  (h_44 : AHeap) =>
                  some (.ret (.int .i64 0), h_44)) fun k43 =>
                message_Check_L0 call v44 t45 k43 n (lenS t41) 0 h_29)) fun j39 =>
            ifB t33
            (
              j39 true h_19)
            (
              obind (fldP 12 v1) fun t35 =>
              obind (ldCell h_19 t35) fun v36 =>
              obind (avStr v36) fun t36 =>
              lett (decide ((lenS t36) > 3500)) fun (t38 : Bool) =>
              j39 t38 h_19))) fun j29 =>
        ifB t25
        (
          j29 true h_16)
        (
          callN (call 33 [v1] h_16) fun r27 h_81 =>
          obind (avBool r27) fun t27 =>
          lett (!t27) fun (t28 : Bool) =>
          j29 t28 h_81)) fun j25 =>
      ifB t19
      (
        j25 true h_13)
      (
        obind (fldP 21 v1) fun t21 =>
        obind (ldCell h_13 t21) fun v22 =>
        obind (avInt .i64 v22) fun t22 =>
        callN (call 32 [.int .i64 t22, .int .i64 3] h_13) fun r23 h_88 =>
        obind (avBool r23) fun t23 =>
        lett (!t23) fun (t24 : Bool) =>
        j25 t24 h_88)) fun j19 =>
    ifB t13
    (
      j19 true h_10)
    (
      obind (fldP 20 v1) fun t15 =>
      obind (ldCell h_10 t15) fun v16 =>
      obind (avInt .i64 v16) fun t16 =>
      callN (call 32 [.int .i64 t16, .int .i64 999] h_10) fun r17 h_95 =>
      obind (avBool r17) fun t17 =>
      lett (!t17) fun (t18 : Bool) =>
      j19 t18 h_95)) fun j13 =>
  ifB t8
  (
    j13 true h_2)
  (
    obind (fldP 0 v1) fun t10 =>
    obind (ldCell h_2 t10) fun v11 =>
    obind (avInt .u8 v11) fun t11 =>
    lett (decide (t11 > 14)) fun (t12 : Bool) =>
    j13 t12 h_2)
set_option maxHeartbeats 4000000 in
set_option maxRecDepth 20000 in
theorem message_Check_ok {call : CallF} (hc : SaysAll Try.prog call) {n : Nat} {t0 : List AV} {h : AHeap} {rR : ARes} {hR : AHeap} (hF : message_Check call n t0 h = some (rR, hR)) : Says Try.prog 12 [.agg t0] h rR hR := by
  unfold message_Check at hF
  refine says_of (fn := Try.f12) Try.func12 (c := codeOf Try.f12) (by kernel_rfl) (by kernel_rfl) (fun w0 m0 => ?_)
  refine W.weaken (l' := [(0, .agg t0)]) (Fr.c Fr.n) ?_
  refine W.s (fun K1 n1 e1 q1 p1 => ?_)
  refine W.r ?_
  replace hF := outK_some hF; obtain ⟨v1, h_2, e3, hF⟩ := hF
  refine WL.b (some 1) v1 h_2 e3 ?_
  refine WL.a (some 2) (.int .i64 0) h_2 ?_
  refine WL.n ?_
  refine Go.weaken (l' := [(1, v1)]) (Fr.c Fr.n) ?_
  refine n1 ?_
  refine W.s (fun K4 n4 e4 q4 p4 => ?_)
  refine W.s (fun K5 n5 e5 q5 p5 => ?_)
  refine W.r ?_
  replace hF := obind_some hF; obtain ⟨t6, e6, hF⟩ := hF
  refine WL.b (some 6) t6 h_2 (field_ptr (P := Try.prog) (h := h_2) (s := 30) (f := 0) (by kernel_rfl) e6) ?_
  replace hF := obind_some hF; obtain ⟨v7, e7, hF⟩ := hF
  replace hF := obind_some hF; obtain ⟨t7, c8, hF⟩ := hF
  have c8 := avInt_some c8
  subst c8
  refine WL.b (some 7) (.int .u8 t7) h_2 (load_cell (P := Try.prog) (h := h_2) (t := 5) (by kernel_rfl) e7) ?_
  replace hF := lett_some hF; obtain ⟨t8, e9, hF⟩ := hF
  refine WL.val (d := (some 8)) (v := .bool t8) (h' := h_2) (by kernel_rfl) (by kernel_rfl) (val_of AV.bool e9 (by kernel_rfl)) ?_
  refine WL.a (some 9) (.bool t8) h_2 ?_
  replace hF := lett_some hF; obtain ⟨j13, e11, hF⟩ := hF
  have J12 : ∀ (t13 : Bool) (h_10 : AHeap), j13 t13 h_10 = some (rR, hR) → WL Try.prog w0 m0 (Func.ntmps Try.f12) (Code.ops (Code.p1 (Code.p1 (Code.p2 (codeOf Try.f12))))) 8 K5 [(1, v1), (13, .bool t13)] [] h_10 := by
    intro t13 h_10 hF
    rw [e11] at hF
    refine WL.a (some 14) (.bool t13) h_10 ?_
    replace hF := lett_some hF; obtain ⟨j19, e14, hF⟩ := hF
    have J15 : ∀ (t19 : Bool) (h_13 : AHeap), j19 t19 h_13 = some (rR, hR) → WL Try.prog w0 m0 (Func.ntmps Try.f12) (Code.ops (Code.p1 (Code.p1 (Code.p2 (codeOf Try.f12))))) 14 K5 [(1, v1), (19, .bool t19)] [] h_13 := by
      intro t19 h_13 hF
      rw [e14] at hF
      refine WL.a (some 20) (.bool t19) h_13 ?_
      replace hF := lett_some hF; obtain ⟨j25, e17, hF⟩ := hF
      have J18 : ∀ (t25 : Bool) (h_16 : AHeap), j25 t25 h_16 = some (rR, hR) → WL Try.prog w0 m0 (Func.ntmps Try.f12) (Code.ops (Code.p1 (Code.p1 (Code.p2 (codeOf Try.f12))))) 20 K5 [(1, v1), (25, .bool t25)] [] h_16 := by
        intro t25 h_16 hF
        rw [e17] at hF
        refine WL.a (some 26) (.bool t25) h_16 ?_
        replace hF := lett_some hF; obtain ⟨j29, e20, hF⟩ := hF
        have J21 : ∀ (t29 : Bool) (h_19 : AHeap), j29 t29 h_19 = some (rR, hR) → WL Try.prog w0 m0 (Func.ntmps Try.f12) (Code.ops (Code.p1 (Code.p1 (Code.p2 (codeOf Try.f12))))) 24 K5 [(1, v1), (29, .bool t29)] [] h_19 := by
          intro t29 h_19 hF
          rw [e20] at hF
          refine WL.n ?_
          refine Go.weaken (l' := [(1, v1), (29, .bool t29)]) (Fr.c (Fr.c Fr.n)) ?_
          refine n5 ?_
          cases t29 with
          | true =>
            replace hF := ifB_t hF
            refine W.t ?_
            refine W.s (fun K22 n22 e22 q22 p22 => ?_)
            refine W.r ?_
            refine WL.a (some 2) (.int .i64 2) h_19 ?_
            refine WL.n ?_
            refine Go.weaken (l' := [(2, .int .i64 2)]) (Fr.c Fr.n) ?_
            refine n22 ?_
            refine W.ret (by kernel_rfl) ?_
            refine q4 ?_
            obtain ⟨hF, hF2⟩ := ret_inj hF; subst hF; subst hF2
            exact leave_of (rs := [.tmp 2]) (vs := [.int .i64 2]) (by kernel_rfl) (res_tmp (by kernel_rfl) res_nil) (by kernel_rfl)
          | false =>
            replace hF := ifB_f hF
            refine W.f ?_
            refine W.skip (by kernel_rfl) ?_
            refine n4 ?_
            refine W.s (fun K23 n23 e23 q23 p23 => ?_)
            refine W.s (fun K24 n24 e24 q24 p24 => ?_)
            refine W.r ?_
            replace hF := obind_some hF; obtain ⟨t30, e25, hF⟩ := hF
            refine WL.b (some 30) t30 h_19 (field_ptr (P := Try.prog) (h := h_19) (s := 30) (f := 9) (by kernel_rfl) e25) ?_
            replace hF := obind_some hF; obtain ⟨v31, e26, hF⟩ := hF
            refine WL.b (some 31) v31 h_19 (load_cell (P := Try.prog) (h := h_19) (t := 26) (by kernel_rfl) e26) ?_
            replace hF := obind_some hF; obtain ⟨t32, e27, hF⟩ := hF
            refine WL.b (some 32) (.int .i64 t32) h_19 (len_row (P := Try.prog) (h := h_19) (t := 26) (e' := 42) (by kernel_rfl) e27) ?_
            replace hF := lett_some hF; obtain ⟨t33, e28, hF⟩ := hF
            refine WL.val (d := (some 33)) (v := .bool t33) (h' := h_19) (by kernel_rfl) (by kernel_rfl) (val_of AV.bool e28 (by kernel_rfl)) ?_
            refine WL.a (some 34) (.bool t33) h_19 ?_
            replace hF := lett_some hF; obtain ⟨j39, e30, hF⟩ := hF
            have J31 : ∀ (t39 : Bool) (h_29 : AHeap), j39 t39 h_29 = some (rR, hR) → WL Try.prog w0 m0 (Func.ntmps Try.f12) (Code.ops (Code.p1 (Code.p1 (Code.p2 (Code.p2 (codeOf Try.f12)))))) 10 K24 [(1, v1), (39, .bool t39)] [] h_29 := by
              intro t39 h_29 hF
              rw [e30] at hF
              refine WL.n ?_
              refine Go.weaken (l' := [(1, v1), (39, .bool t39)]) (Fr.c (Fr.c Fr.n)) ?_
              refine n24 ?_
              cases t39 with
              | true =>
                replace hF := ifB_t hF
                refine W.t ?_
                refine W.s (fun K32 n32 e32 q32 p32 => ?_)
                refine W.r ?_
                refine WL.a (some 2) (.int .i64 3) h_29 ?_
                refine WL.n ?_
                refine Go.weaken (l' := [(2, .int .i64 3)]) (Fr.c Fr.n) ?_
                refine n32 ?_
                refine W.ret (by kernel_rfl) ?_
                refine q23 ?_
                obtain ⟨hF, hF2⟩ := ret_inj hF; subst hF; subst hF2
                exact leave_of (rs := [.tmp 2]) (vs := [.int .i64 3]) (by kernel_rfl) (res_tmp (by kernel_rfl) res_nil) (by kernel_rfl)
              | false =>
                replace hF := ifB_f hF
                refine W.f ?_
                refine W.skip (by kernel_rfl) ?_
                refine n23 ?_
                refine W.s (fun K33 n33 e33 q33 p33 => ?_)
                refine W.r ?_
                replace hF := obind_some hF; obtain ⟨t40, e34, hF⟩ := hF
                refine WL.b (some 40) t40 h_29 (field_ptr (P := Try.prog) (h := h_29) (s := 30) (f := 12) (by kernel_rfl) e34) ?_
                replace hF := obind_some hF; obtain ⟨v41, e35, hF⟩ := hF
                replace hF := obind_some hF; obtain ⟨t41, c36, hF⟩ := hF
                have c36 := avStr_some c36
                subst c36
                refine WL.b (some 41) (strA t41) h_29 (load_cell (P := Try.prog) (h := h_29) (t := 9) (by kernel_rfl) e35) ?_
                refine WL.a (some 42) (.int .i64 (lenS t41)) h_29 ?_
                refine WL.a (some 3) (.int .i64 (lenS t41)) h_29 ?_
                refine WL.n ?_
                refine Go.weaken (l' := [(1, v1), (3, .int .i64 (lenS t41))]) (Fr.c (Fr.c Fr.n)) ?_
                refine n33 ?_
                refine W.s (fun K37 n37 e37 q37 p37 => ?_)
                refine W.s (fun K38 n38 e38 q38 p38 => ?_)
                refine W.r ?_
                replace hF := obind_some hF; obtain ⟨t43, e39, hF⟩ := hF
                refine WL.b (some 43) t43 h_29 (field_ptr (P := Try.prog) (h := h_29) (s := 30) (f := 9) (by kernel_rfl) e39) ?_
                replace hF := obind_some hF; obtain ⟨v44, e40, hF⟩ := hF
                refine WL.b (some 44) v44 h_29 (load_cell (P := Try.prog) (h := h_29) (t := 26) (by kernel_rfl) e40) ?_
                replace hF := obind_some hF; obtain ⟨t45, e41, hF⟩ := hF
                refine WL.b (some 45) (.int .i64 t45) h_29 (len_row (P := Try.prog) (h := h_29) (t := 26) (e' := 42) (by kernel_rfl) e41) ?_
                refine WL.a (some 46) (.int .i64 0) h_29 ?_
                refine WL.n ?_
                refine Go.weaken (l' := [(3, .int .i64 (lenS t41)), (44, v44), (45, .int .i64 t45), (46, .int .i64 0)]) (Fr.c (Fr.c (Fr.c (Fr.c Fr.n)))) ?_
                refine n38 ?_
                replace hF := lett_some hF; obtain ⟨k43, e43, hF⟩ := hF
                have J43 : ∀  (h_44 : AHeap), k43 h_44 = some (rR, hR) → Go w0 m0 (Func.ntmps Try.f12) (K37 .normal) [] [] h_44 := by
                  intro  h_44 hF
                  rw [e43] at hF
                  refine n37 ?_
                  refine W.s (fun K45 n45 e45 q45 p45 => ?_)
                  refine W.r ?_
                  refine WL.a (some 2) (.int .i64 0) h_44 ?_
                  refine WL.n ?_
                  refine Go.weaken (l' := [(2, .int .i64 0)]) (Fr.c Fr.n) ?_
                  refine n45 ?_
                  refine W.ret (by kernel_rfl) ?_
                  obtain ⟨hF, hF2⟩ := ret_inj hF; subst hF; subst hF2
                  exact leave_of (rs := [.tmp 2]) (vs := [.int .i64 0]) (by kernel_rfl) (res_tmp (by kernel_rfl) res_nil) (by kernel_rfl)
                refine W.blockK (by kernel_rfl) (fun K42 n42 s42 o42 q42 p42 => ?_)
                refine W.loopK (by kernel_rfl) (fun I46 K46 b46 n46 e46 q46 p46 => ?_)
                have L46 : ∀ (m : Nat) (t3 : Int) (t46 : Int) (h_47 : AHeap), message_Check_L0 call v44 t45 k43 m t3 t46 h_47 = some (rR, hR) → Go w0 m0 (Func.ntmps Try.f12) I46 [(3, .int .i64 t3), (44, v44), (45, .int .i64 t45), (46, .int .i64 t46)] [] h_47 := by
                  intro m
                  induction m with
                  | zero => intro t3 t46 h_47 hF; cases hF
                  | succ m ih46 =>
                    intro t3 t46 h_47 hF
                    rw [message_Check_L0_s] at hF; unfold message_Check_L0b at hF
                    refine b46 ?_
                    refine W.s (fun K48 n48 e48 q48 p48 => ?_)
                    refine W.r ?_
                    replace hF := lett_some hF; obtain ⟨t47, e49, hF⟩ := hF
                    refine WL.val (d := (some 47)) (v := .bool t47) (h' := h_47) (by kernel_rfl) (by kernel_rfl) (val_of AV.bool e49 (by kernel_rfl)) ?_
                    refine WL.n ?_
                    refine Go.weaken (l' := [(3, .int .i64 t3), (44, v44), (45, .int .i64 t45), (46, .int .i64 t46), (47, .bool t47)]) (Fr.c (Fr.c (Fr.c (Fr.c (Fr.c Fr.n))))) ?_
                    refine n48 ?_
                    refine W.s (fun K50 n50 e50 q50 p50 => ?_)
                    cases t47 with
                    | true =>
                      replace hF := ifB_t hF
                      refine W.t ?_
                      refine W.skip (by kernel_rfl) ?_
                      refine n50 ?_
                      refine W.s (fun K51 n51 e51 q51 p51 => ?_)
                      refine W.blockK (by kernel_rfl) (fun K52 n52 s52 o52 q52 p52 => ?_)
                      refine W.s (fun K53 n53 e53 q53 p53 => ?_)
                      refine W.r ?_
                      replace hF := obind_some hF; obtain ⟨t48, e54, hF⟩ := hF
                      refine WL.b (some 48) t48 h_47 (index_row (P := Try.prog) (h := h_47) (t := 26) (e' := 42) (k := .i64) (by kernel_rfl) (by kernel_rfl) (by kernel_rfl) e54) ?_
                      replace hF := obind_some hF; obtain ⟨t49, e55, hF⟩ := hF
                      refine WL.b (some 49) (.agg t49) h_47 (load_row (P := Try.prog) (h := h_47) (t := 42) (by kernel_rfl) (by kernel_rfl) e55) ?_
                      replace hF := lett_some hF; obtain ⟨h_56, e57, hF⟩ := hF
                      refine WL.val (d := (some 5)) (v := (newP h_47)) (h' := h_56) (by kernel_rfl) (by kernel_rfl) (val_ofH e57 (by kernel_rfl)) ?_
                      replace hF := obind_some hF; obtain ⟨h_58, e59, hF⟩ := hF
                      refine WL.e h_58 (store_row (P := Try.prog) (h := h_56) (t := 42) (v := (.agg t49)) (by kernel_rfl) (by kernel_rfl) e59) ?_
                      refine WL.n ?_
                      refine Go.weaken (l' := [(3, .int .i64 t3), (5, (newP h_47)), (44, v44), (45, .int .i64 t45), (46, .int .i64 t46)]) (Fr.c (Fr.c (Fr.c (Fr.c (Fr.c Fr.n))))) ?_
                      refine n53 ?_
                      refine W.s (fun K60 n60 e60 q60 p60 => ?_)
                      refine W.s (fun K61 n61 e61 q61 p61 => ?_)
                      refine W.r ?_
                      refine WL.a (some 50) (AV.ptr (AHeap.next h_47) 0) h_58 ?_
                      replace hF := obind_some hF; obtain ⟨v51, e62, hF⟩ := hF
                      replace hF := obind_some hF; obtain ⟨t51, c63, hF⟩ := hF
                      have c63 := avInt_some c63
                      subst c63
                      refine WL.b (some 51) (.int .i64 t51) h_58 (load_cell (P := Try.prog) (h := h_58) (t := 3) (by kernel_rfl) e62) ?_
                      replace hF := callN_some hF; obtain ⟨r52, h_64, e65, hF⟩ := hF
                      replace hF := obind_some hF; obtain ⟨t52, c66, hF⟩ := hF
                      have c66 := avBool_some c66
                      subst c66
                      refine WL.c (hc.ok w0) (some 52) e65 ?_
                      replace hF := lett_some hF; obtain ⟨t53, e67, hF⟩ := hF
                      refine WL.val (d := (some 53)) (v := .bool t53) (h' := h_64) (by kernel_rfl) (by kernel_rfl) (val_of AV.bool e67 (by kernel_rfl)) ?_
                      refine WL.n ?_
                      refine Go.weaken (l' := [(3, .int .i64 t3), (5, (newP h_47)), (44, v44), (45, .int .i64 t45), (46, .int .i64 t46), (53, .bool t53)]) (Fr.c (Fr.c (Fr.c (Fr.c (Fr.c (Fr.c Fr.n)))))) ?_
                      refine n61 ?_
                      cases t53 with
                      | true =>
                        replace hF := ifB_t hF
                        refine W.t ?_
                        refine W.s (fun K68 n68 e68 q68 p68 => ?_)
                        refine W.r ?_
                        refine WL.a (some 2) (.int .i64 2) h_64 ?_
                        refine WL.n ?_
                        refine Go.weaken (l' := [(2, .int .i64 2)]) (Fr.c Fr.n) ?_
                        refine n68 ?_
                        refine W.ret (by kernel_rfl) ?_
                        refine q60 ?_
                        refine q52 ?_
                        refine q51 ?_
                        refine q46 ?_
                        refine q42 ?_
                        refine q37 ?_
                        obtain ⟨hF, hF2⟩ := ret_inj hF; subst hF; subst hF2
                        exact leave_of (rs := [.tmp 2]) (vs := [.int .i64 2]) (by kernel_rfl) (res_tmp (by kernel_rfl) res_nil) (by kernel_rfl)
                      | false =>
                        replace hF := ifB_f hF
                        refine W.f ?_
                        refine W.skip (by kernel_rfl) ?_
                        refine n60 ?_
                        refine W.s (fun K69 n69 e69 q69 p69 => ?_)
                        refine W.r ?_
                        refine WL.a (some 54) (.int .i64 t3) h_64 ?_
                        refine WL.a (some 55) (AV.ptr (AHeap.next h_47) 1) h_64 ?_
                        replace hF := obind_some hF; obtain ⟨v56, e70, hF⟩ := hF
                        replace hF := obind_some hF; obtain ⟨t56, c71, hF⟩ := hF
                        have c71 := avStr_some c71
                        subst c71
                        refine WL.b (some 56) (strA t56) h_64 (load_cell (P := Try.prog) (h := h_64) (t := 9) (by kernel_rfl) e70) ?_
                        refine WL.a (some 57) (.int .i64 (lenS t56)) h_64 ?_
                        replace hF := lett_some hF; obtain ⟨t58, e72, hF⟩ := hF
                        refine WL.val (d := (some 58)) (v := .int .i64 t58) (h' := h_64) (by kernel_rfl) (by kernel_rfl) (val_of (AV.int .i64) e72 (by kernel_rfl)) ?_
                        refine WL.a (some 3) (.int .i64 t58) h_64 ?_
                        refine WL.n ?_
                        refine Go.weaken (l' := [(3, .int .i64 t58), (44, v44), (45, .int .i64 t45), (46, .int .i64 t46)]) (Fr.c (Fr.c (Fr.c (Fr.c Fr.n)))) ?_
                        refine n69 ?_
                        refine W.s (fun K73 n73 e73 q73 p73 => ?_)
                        refine W.r ?_
                        refine WL.a (some 59) (.int .i64 t58) h_64 ?_
                        replace hF := lett_some hF; obtain ⟨t60, e74, hF⟩ := hF
                        refine WL.val (d := (some 60)) (v := .bool t60) (h' := h_64) (by kernel_rfl) (by kernel_rfl) (val_of AV.bool e74 (by kernel_rfl)) ?_
                        refine WL.n ?_
                        refine Go.weaken (l' := [(3, .int .i64 t58), (44, v44), (45, .int .i64 t45), (46, .int .i64 t46), (60, .bool t60)]) (Fr.c (Fr.c (Fr.c (Fr.c (Fr.c Fr.n))))) ?_
                        refine n73 ?_
                        cases t60 with
                        | true =>
                          replace hF := ifB_t hF
                          refine W.t ?_
                          refine W.s (fun K75 n75 e75 q75 p75 => ?_)
                          refine W.r ?_
                          refine WL.a (some 2) (.int .i64 3) h_64 ?_
                          refine WL.n ?_
                          refine Go.weaken (l' := [(2, .int .i64 3)]) (Fr.c Fr.n) ?_
                          refine n75 ?_
                          refine W.ret (by kernel_rfl) ?_
                          refine q52 ?_
                          refine q51 ?_
                          refine q46 ?_
                          refine q42 ?_
                          refine q37 ?_
                          obtain ⟨hF, hF2⟩ := ret_inj hF; subst hF; subst hF2
                          exact leave_of (rs := [.tmp 2]) (vs := [.int .i64 3]) (by kernel_rfl) (res_tmp (by kernel_rfl) res_nil) (by kernel_rfl)
                        | false =>
                          replace hF := ifB_f hF
                          refine W.f ?_
                          refine W.skip (by kernel_rfl) ?_
                          refine n52 ?_
                          refine n51 ?_
                          refine W.r ?_
                          replace hF := lett_some hF; obtain ⟨t61, e76, hF⟩ := hF
                          refine WL.val (d := (some 61)) (v := .int .i64 t61) (h' := h_64) (by kernel_rfl) (by kernel_rfl) (val_of (AV.int .i64) e76 (by kernel_rfl)) ?_
                          refine WL.a (some 46) (.int .i64 t61) h_64 ?_
                          refine WL.n ?_
                          refine Go.weaken (l' := [(3, .int .i64 t58), (44, v44), (45, .int .i64 t45), (46, .int .i64 t61)]) (Fr.c (Fr.c (Fr.c (Fr.c Fr.n)))) ?_
                          refine n46 ?_
                          exact Go.weaken (Fr.c (Fr.c (Fr.c (Fr.c Fr.n)))) (ih46 _ _ _ hF)
                    | false =>
                      replace hF := ifB_f hF
                      refine W.f ?_
                      refine W.exit (by kernel_rfl) ?_
                      refine e50 ?_
                      refine e46 ?_
                      refine s42 (by kernel_rfl) ?_
                      exact Go.weaken Fr.n (J43 _ hF)
                exact Go.weaken (Fr.c (Fr.c (Fr.c (Fr.c Fr.n)))) (L46 _ _ _ _ hF)
            cases t33 with
            | true =>
              replace hF := ifB_t hF
              refine WL.o (some 35) ?_
              refine WL.o (some 36) ?_
              refine WL.o (some 37) ?_
              refine WL.o (some 38) ?_
              refine WL.a (some 39) (.bool true) h_19 ?_
              exact WL.weaken (Fr.c (Fr.c Fr.n)) (J31 _ _ hF)
            | false =>
              replace hF := ifB_f hF
              replace hF := obind_some hF; obtain ⟨t35, e77, hF⟩ := hF
              refine WL.b (some 35) t35 h_19 (field_ptr (P := Try.prog) (h := h_19) (s := 30) (f := 12) (by kernel_rfl) e77) ?_
              replace hF := obind_some hF; obtain ⟨v36, e78, hF⟩ := hF
              replace hF := obind_some hF; obtain ⟨t36, c79, hF⟩ := hF
              have c79 := avStr_some c79
              subst c79
              refine WL.b (some 36) (strA t36) h_19 (load_cell (P := Try.prog) (h := h_19) (t := 9) (by kernel_rfl) e78) ?_
              refine WL.a (some 37) (.int .i64 (lenS t36)) h_19 ?_
              replace hF := lett_some hF; obtain ⟨t38, e80, hF⟩ := hF
              refine WL.val (d := (some 38)) (v := .bool t38) (h' := h_19) (by kernel_rfl) (by kernel_rfl) (val_of AV.bool e80 (by kernel_rfl)) ?_
              refine WL.a (some 39) (.bool t38) h_19 ?_
              exact WL.weaken (Fr.c (Fr.c Fr.n)) (J31 _ _ hF)
        cases t25 with
        | true =>
          replace hF := ifB_t hF
          refine WL.o (some 27) ?_
          refine WL.o (some 28) ?_
          refine WL.a (some 29) (.bool true) h_16 ?_
          exact WL.weaken (Fr.c (Fr.c Fr.n)) (J21 _ _ hF)
        | false =>
          replace hF := ifB_f hF
          replace hF := callN_some hF; obtain ⟨r27, h_81, e82, hF⟩ := hF
          replace hF := obind_some hF; obtain ⟨t27, c83, hF⟩ := hF
          have c83 := avBool_some c83
          subst c83
          refine WL.c (hc.ok w0) (some 27) e82 ?_
          replace hF := lett_some hF; obtain ⟨t28, e84, hF⟩ := hF
          refine WL.val (d := (some 28)) (v := .bool t28) (h' := h_81) (by kernel_rfl) (by kernel_rfl) (val_of AV.bool e84 (by kernel_rfl)) ?_
          refine WL.a (some 29) (.bool t28) h_81 ?_
          exact WL.weaken (Fr.c (Fr.c Fr.n)) (J21 _ _ hF)
      cases t19 with
      | true =>
        replace hF := ifB_t hF
        refine WL.o (some 21) ?_
        refine WL.o (some 22) ?_
        refine WL.o (some 23) ?_
        refine WL.o (some 24) ?_
        refine WL.a (some 25) (.bool true) h_13 ?_
        exact WL.weaken (Fr.c (Fr.c Fr.n)) (J18 _ _ hF)
      | false =>
        replace hF := ifB_f hF
        replace hF := obind_some hF; obtain ⟨t21, e85, hF⟩ := hF
        refine WL.b (some 21) t21 h_13 (field_ptr (P := Try.prog) (h := h_13) (s := 30) (f := 20) (by kernel_rfl) e85) ?_
        replace hF := obind_some hF; obtain ⟨v22, e86, hF⟩ := hF
        replace hF := obind_some hF; obtain ⟨t22, c87, hF⟩ := hF
        have c87 := avInt_some c87
        subst c87
        refine WL.b (some 22) (.int .i64 t22) h_13 (load_cell (P := Try.prog) (h := h_13) (t := 3) (by kernel_rfl) e86) ?_
        replace hF := callN_some hF; obtain ⟨r23, h_88, e89, hF⟩ := hF
        replace hF := obind_some hF; obtain ⟨t23, c90, hF⟩ := hF
        have c90 := avBool_some c90
        subst c90
        refine WL.c (hc.ok w0) (some 23) e89 ?_
        replace hF := lett_some hF; obtain ⟨t24, e91, hF⟩ := hF
        refine WL.val (d := (some 24)) (v := .bool t24) (h' := h_88) (by kernel_rfl) (by kernel_rfl) (val_of AV.bool e91 (by kernel_rfl)) ?_
        refine WL.a (some 25) (.bool t24) h_88 ?_
        exact WL.weaken (Fr.c (Fr.c Fr.n)) (J18 _ _ hF)
    cases t13 with
    | true =>
      replace hF := ifB_t hF
      refine WL.o (some 15) ?_
      refine WL.o (some 16) ?_
      refine WL.o (some 17) ?_
      refine WL.o (some 18) ?_
      refine WL.a (some 19) (.bool true) h_10 ?_
      exact WL.weaken (Fr.c (Fr.c Fr.n)) (J15 _ _ hF)
    | false =>
      replace hF := ifB_f hF
      replace hF := obind_some hF; obtain ⟨t15, e92, hF⟩ := hF
      refine WL.b (some 15) t15 h_10 (field_ptr (P := Try.prog) (h := h_10) (s := 30) (f := 19) (by kernel_rfl) e92) ?_
      replace hF := obind_some hF; obtain ⟨v16, e93, hF⟩ := hF
      replace hF := obind_some hF; obtain ⟨t16, c94, hF⟩ := hF
      have c94 := avInt_some c94
      subst c94
      refine WL.b (some 16) (.int .i64 t16) h_10 (load_cell (P := Try.prog) (h := h_10) (t := 23) (by kernel_rfl) e93) ?_
      replace hF := callN_some hF; obtain ⟨r17, h_95, e96, hF⟩ := hF
      replace hF := obind_some hF; obtain ⟨t17, c97, hF⟩ := hF
      have c97 := avBool_some c97
      subst c97
      refine WL.c (hc.ok w0) (some 17) e96 ?_
      replace hF := lett_some hF; obtain ⟨t18, e98, hF⟩ := hF
      refine WL.val (d := (some 18)) (v := .bool t18) (h' := h_95) (by kernel_rfl) (by kernel_rfl) (val_of AV.bool e98 (by kernel_rfl)) ?_
      refine WL.a (some 19) (.bool t18) h_95 ?_
      exact WL.weaken (Fr.c (Fr.c Fr.n)) (J15 _ _ hF)
  cases t8 with
  | true =>
    replace hF := ifB_t hF
    refine WL.o (some 10) ?_
    refine WL.o (some 11) ?_
    refine WL.o (some 12) ?_
    refine WL.a (some 13) (.bool true) h_2 ?_
    exact WL.weaken (Fr.c (Fr.c Fr.n)) (J12 _ _ hF)
  | false =>
    replace hF := ifB_f hF
    replace hF := obind_some hF; obtain ⟨t10, e99, hF⟩ := hF
    refine WL.b (some 10) t10 h_2 (field_ptr (P := Try.prog) (h := h_2) (s := 30) (f := 0) (by kernel_rfl) e99) ?_
    replace hF := obind_some hF; obtain ⟨v11, e100, hF⟩ := hF
    replace hF := obind_some hF; obtain ⟨t11, c101, hF⟩ := hF
    have c101 := avInt_some c101
    subst c101
    refine WL.b (some 11) (.int .u8 t11) h_2 (load_cell (P := Try.prog) (h := h_2) (t := 5) (by kernel_rfl) e100) ?_
    replace hF := lett_some hF; obtain ⟨t12, e102, hF⟩ := hF
    refine WL.val (d := (some 12)) (v := .bool t12) (h' := h_2) (by kernel_rfl) (by kernel_rfl) (val_of AV.bool e102 (by kernel_rfl)) ?_
    refine WL.a (some 13) (.bool t12) h_2 ?_
    exact WL.weaken (Fr.c (Fr.c Fr.n)) (J12 _ _ hF)
noncomputable def message_Check_fn (call : CallF) (n : Nat) : FnT := fun args h => match args with
  | [x0] => obind (avAgg x0) fun t0 => message_Check call n t0 h
  | _ => none
set_option maxRecDepth 100000 in
theorem message_Check_fn_eq (call : CallF) (n : Nat) (t0 : List AV) (h : AHeap) : message_Check_fn call n [.agg t0] h = message_Check call n t0 h :=
  (Eq.trans (obind_eq (fun t0 => message_Check call n t0 h) (avAgg_agg t0)) rfl)
theorem message_Check_holds {call : CallF} (hc : SaysAll Try.prog call) (n : Nat) : Holds Try.prog 12 (message_Check_fn call n) := by
  intro args h r h2 e
  unfold message_Check_fn at e
  split at e
  · replace e := obind_some e; obtain ⟨t0, c0, e⟩ := e; have c0 := avAgg_some c0; subst c0
    exact message_Check_ok hc e
  · cases e

end Go.Proofs.Ytmibgiblejpgdaa
