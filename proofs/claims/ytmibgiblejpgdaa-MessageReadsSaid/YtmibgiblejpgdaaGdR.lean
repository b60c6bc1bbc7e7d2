/- Plain functions in place of the program's, and that their calls come to what they say. -/
import Derived.Test.YtmibgiblejpgdaaFrame
import Derived.Test.YtmibgiblejpgdaaAbs50
namespace Go.Proofs.Ytmibgiblejpgdaa
open Go.RowKit Abs

noncomputable def ref01_Reader_Number_L0b (t0 : AV) (t1 : Int) (k40 : Int → AHeap → R) (self : Int → Int → AHeap → R) (t5_54 : Int) (t6 : Int) (h_55 : AHeap) : R :=
  lett (decide (t6 < t1)) fun (t36 : Bool) =>
  ifB t36
  (
    lett (IntKind.u64.wrap (t5_54 * 256)) fun (t40 : Int) =>
    obind (nilC t0) fun t42 =>
    obind (fldP 0 t42) fun t43 =>
    obind (ldCell h_55 t43) fun v44 =>
    obind (avStr v44) fun t44 =>
    obind (nilC t0) fun t46 =>
    obind (fldP 1 t46) fun t47 =>
    obind (ldCell h_55 t47) fun v48 =>
    obind (avInt .i64 v48) fun t48 =>
    lett (IntKind.i64.wrap (t48 + t6)) fun (t50 : Int) =>
    obind (idxS t44 t50) fun t51 =>
    lett (IntKind.u64.wrap t51) fun (t52 : Int) =>
    lett (IntKind.u64.wrap (t40 + t52)) fun (t53 : Int) =>
    lett (IntKind.i64.wrap (t6 + 1)) fun (t38 : Int) =>
    self t53 t38 h_55)
  (
    k40 t5_54 h_55)
noncomputable def ref01_Reader_Number_L0 (t0 : AV) (t1 : Int) (k40 : Int → AHeap → R) : Nat → Int → Int → AHeap → R := iterR (fun _ _ _ => none) (ref01_Reader_Number_L0b t0 t1 k40)
theorem ref01_Reader_Number_L0_s (t0 : AV) (t1 : Int) (k40 : Int → AHeap → R) (m : Nat) : ref01_Reader_Number_L0 t0 t1 k40 (m + 1) = ref01_Reader_Number_L0b t0 t1 k40 (ref01_Reader_Number_L0 t0 t1 k40 m) := rfl
noncomputable def ref01_Reader_Number (_ : CallF) (n : Nat) (t0 : AV) (t1 : Int) (h : AHeap) : R :=
  obind (nilC t0) fun t8 =>
  obind (fldP 2 t8) fun t9 =>
  obind (ldCell h t9) fun v10 =>
  obind (avInt .i64 v10) fun t10 =>
  lett ((t10 : Int) != 0) fun (t11 : Bool) =>
  ifB t11
  (
    some (.ret (.int .u64 0), h))
  (
    obind (nilC t0) fun t13 =>
    obind (fldP 0 t13) fun t14 =>
    obind (ldCell h t14) fun v15 =>
    obind (avStr v15) fun t15 =>
    obind (nilC t0) fun t18 =>
    obind (fldP 1 t18) fun t19 =>
    obind (ldCell h t19) fun v20 =>
    obind (avInt .i64 v20) fun t20 =>
    lett (IntKind.i64.wrap ((lenS t15) - t20)) fun (t21 : Int) =>
    lett (decide (t21 < t1)) fun (t23 : Bool) =>
    ifB t23
    (
      obind (nilC t0) fun t27 =>
      obind (fldP 1 t27) fun t28 =>
      obind (ldCell h t28) fun v29 =>
      obind (avInt .i64 v29) fun t29 =>
      obind (nilC t0) fun t30 =>
      obind (fldP 2 t30) fun t31 =>
      obind (stRow h 1 [.int .i64 7] t31) fun h_29 =>
      obind (nilC t0) fun t32 =>
      obind (fldP 3 t32) fun t33 =>
      obind (stRow h_29 1 [.int .i64 t29] t33) fun h_33 =>
      some (.ret (.int .u64 0), h_33))
    (
      lett (fun (t5 : Int) (h_41 : AHeap) =>
        obind (nilC t0) fun t56 =>
        obind (fldP 1 t56) fun t57 =>
        obind (ldCell h_41 t57) fun v58 =>
        obind (avInt .i64 v58) fun t58 =>
        lett (IntKind.i64.wrap (t58 + t1)) fun (t60 : Int) =>
        obind (nilC t0) fun t61 =>
        obind (fldP 1 t61) fun t62 =>
        obind (stRow h_41 1 [.int .i64 t60] t62) fun h_50 =>
        some (.ret (.int .u64 t5), h_50)) fun k40 =>
      ref01_Reader_Number_L0 t0 t1 k40 n 0 0 h))
set_option maxHeartbeats 4000000 in
set_option maxRecDepth 20000 in
theorem ref01_Reader_Number_ok {call : CallF} (hc : SaysAll Try.prog call) {n : Nat} {t0 : AV} {t1 : Int} {h : AHeap} {rR : ARes} {hR : AHeap} (hF : ref01_Reader_Number call n t0 t1 h = some (rR, hR)) : Says Try.prog 38 [t0, .int .i64 t1] h rR hR := by
  unfold ref01_Reader_Number at hF
  refine says_of (fn := Try.f38) Try.func38 (c := codeOf Try.f38) (by kernel_rfl) (by kernel_rfl) (fun w0 m0 => ?_)
  refine W.weaken (l' := [(0, t0), (1, .int .i64 t1)]) (Fr.c (Fr.c Fr.n)) ?_
  refine W.s (fun K1 n1 e1 q1 p1 => ?_)
  refine W.r ?_
  refine WL.a (some 4) (.int .u64 0) h ?_
  refine WL.n ?_
  refine Go.weaken (l' := [(0, t0), (1, .int .i64 t1)]) (Fr.c (Fr.c Fr.n)) ?_
  refine n1 ?_
  refine W.s (fun K2 n2 e2 q2 p2 => ?_)
  refine W.s (fun K3 n3 e3 q3 p3 => ?_)
  refine W.r ?_
  refine WL.a (some 7) t0 h ?_
  replace hF := obind_some hF; obtain ⟨t8, e4, hF⟩ := hF
  refine WL.b (some 8) t8 h (nil_chk (h := h) e4) ?_
  replace hF := obind_some hF; obtain ⟨t9, e5, hF⟩ := hF
  refine WL.b (some 9) t9 h (field_ptr (P := Try.prog) (h := h) (s := 85) (f := 2) (by kernel_rfl) e5) ?_
  replace hF := obind_some hF; obtain ⟨v10, e6, hF⟩ := hF
  replace hF := obind_some hF; obtain ⟨t10, c7, hF⟩ := hF
  have c7 := avInt_some c7
  subst c7
  refine WL.b (some 10) (.int .i64 t10) h (load_cell (P := Try.prog) (h := h) (t := 3) (by kernel_rfl) e6) ?_
  replace hF := lett_some hF; obtain ⟨t11, e8, hF⟩ := hF
  refine WL.val (d := (some 11)) (v := .bool t11) (h' := h) (by kernel_rfl) (by kernel_rfl) (val_of AV.bool e8 (by kernel_rfl)) ?_
  refine WL.n ?_
  refine Go.weaken (l' := [(0, t0), (1, .int .i64 t1), (11, .bool t11)]) (Fr.c (Fr.c (Fr.c Fr.n))) ?_
  refine n3 ?_
  cases t11 with
  | true =>
    replace hF := ifB_t hF
    refine W.t ?_
    refine W.s (fun K9 n9 e9 q9 p9 => ?_)
    refine W.r ?_
    refine WL.a (some 4) (.int .u64 0) h ?_
    refine WL.n ?_
    refine Go.weaken (l' := [(4, .int .u64 0)]) (Fr.c Fr.n) ?_
    refine n9 ?_
    refine W.ret (by kernel_rfl) ?_
    refine q2 ?_
    obtain ⟨hF, hF2⟩ := ret_inj hF; subst hF; subst hF2
    exact leave_of (rs := [.tmp 4]) (vs := [.int .u64 0]) (by kernel_rfl) (res_tmp (by kernel_rfl) res_nil) (by kernel_rfl)
  | false =>
    replace hF := ifB_f hF
    refine W.f ?_
    refine W.skip (by kernel_rfl) ?_
    refine n2 ?_
    refine W.s (fun K10 n10 e10 q10 p10 => ?_)
    refine W.s (fun K11 n11 e11 q11 p11 => ?_)
    refine W.draw (by kernel_rfl) (hc.ok w0) (plan := [0, 1, 2, 3, 4, 5, 6, 7, 8, 9, 10, 11]) (by kernel_rfl) (by kernel_rfl) (by kernel_rfl) ?_
    refine WD.a 0 (some 12) t0 h ?_
    replace hF := obind_some hF; obtain ⟨t13, e12, hF⟩ := hF
    refine WD.b 0 (some 13) t13 h (nil_chk (h := h) e12) ?_
    replace hF := obind_some hF; obtain ⟨t14, e13, hF⟩ := hF
    refine WD.b 0 (some 14) t14 h (field_ptr (P := Try.prog) (h := h) (s := 85) (f := 0) (by kernel_rfl) e13) ?_
    replace hF := obind_some hF; obtain ⟨v15, e14, hF⟩ := hF
    replace hF := obind_some hF; obtain ⟨t15, c15, hF⟩ := hF
    have c15 := avStr_some c15
    subst c15
    refine WD.b 1 (some 15) (strA t15) h (load_cell (P := Try.prog) (h := h) (t := 9) (by kernel_rfl) e14) ?_
    refine WD.a 0 (some 16) (.int .i64 (lenS t15)) h ?_
    refine WD.a 0 (some 17) t0 h ?_
    replace hF := obind_some hF; obtain ⟨t18, e16, hF⟩ := hF
    refine WD.b 0 (some 18) t18 h (nil_chk (h := h) e16) ?_
    replace hF := obind_some hF; obtain ⟨t19, e17, hF⟩ := hF
    refine WD.b 0 (some 19) t19 h (field_ptr (P := Try.prog) (h := h) (s := 85) (f := 1) (by kernel_rfl) e17) ?_
    replace hF := obind_some hF; obtain ⟨v20, e18, hF⟩ := hF
    replace hF := obind_some hF; obtain ⟨t20, c19, hF⟩ := hF
    have c19 := avInt_some c19
    subst c19
    refine WD.b 1 (some 20) (.int .i64 t20) h (load_cell (P := Try.prog) (h := h) (t := 3) (by kernel_rfl) e18) ?_
    replace hF := lett_some hF; obtain ⟨t21, e20, hF⟩ := hF
    refine WD.val (d := (some 21)) (v := .int .i64 t21) (h' := h) (by kernel_rfl) (by kernel_rfl) (val_of (AV.int .i64) e20 (by kernel_rfl)) (k := 0) (by kernel_rfl) (fun e => absurd e (by decide)) (by decide) ?_
    refine WD.a 0 (some 22) (.int .i64 t1) h ?_
    replace hF := lett_some hF; obtain ⟨t23, e21, hF⟩ := hF
    refine WD.val (d := (some 23)) (v := .bool t23) (h' := h) (by kernel_rfl) (by kernel_rfl) (val_of AV.bool e21 (by kernel_rfl)) (k := 0) (by kernel_rfl) (fun e => absurd e (by decide)) (by decide) ?_
    refine WD.nil ?_
    refine Go.weaken (l' := [(0, t0), (1, .int .i64 t1), (23, .bool t23)]) (Fr.c (Fr.c (Fr.c Fr.n))) ?_
    refine n11 ?_
    cases t23 with
    | true =>
      replace hF := ifB_t hF
      refine W.t ?_
      refine W.s (fun K22 n22 e22 q22 p22 => ?_)
      refine W.r ?_
      refine WL.a (some 24) t0 h ?_
      refine WL.a (some 25) t0 h ?_
      refine WL.a (some 26) t0 h ?_
      replace hF := obind_some hF; obtain ⟨t27, e23, hF⟩ := hF
      refine WL.b (some 27) t27 h (nil_chk (h := h) e23) ?_
      replace hF := obind_some hF; obtain ⟨t28, e24, hF⟩ := hF
      refine WL.b (some 28) t28 h (field_ptr (P := Try.prog) (h := h) (s := 85) (f := 1) (by kernel_rfl) e24) ?_
      replace hF := obind_some hF; obtain ⟨v29, e25, hF⟩ := hF
      replace hF := obind_some hF; obtain ⟨t29, c26, hF⟩ := hF
      have c26 := avInt_some c26
      subst c26
      refine WL.b (some 29) (.int .i64 t29) h (load_cell (P := Try.prog) (h := h) (t := 3) (by kernel_rfl) e25) ?_
      replace hF := obind_some hF; obtain ⟨t30, e27, hF⟩ := hF
      refine WL.b (some 30) t30 h (nil_chk (h := h) e27) ?_
      replace hF := obind_some hF; obtain ⟨t31, e28, hF⟩ := hF
      refine WL.b (some 31) t31 h (field_ptr (P := Try.prog) (h := h) (s := 85) (f := 2) (by kernel_rfl) e28) ?_
      replace hF := obind_some hF; obtain ⟨h_29, e30, hF⟩ := hF
      refine WL.e h_29 (store_row (P := Try.prog) (h := h) (t := 3) (v := (.int .i64 7)) (by kernel_rfl) (by kernel_rfl) e30) ?_
      replace hF := obind_some hF; obtain ⟨t32, e31, hF⟩ := hF
      refine WL.b (some 32) t32 h_29 (nil_chk (h := h_29) e31) ?_
      replace hF := obind_some hF; obtain ⟨t33, e32, hF⟩ := hF
      refine WL.b (some 33) t33 h_29 (field_ptr (P := Try.prog) (h := h_29) (s := 85) (f := 3) (by kernel_rfl) e32) ?_
      replace hF := obind_some hF; obtain ⟨h_33, e34, hF⟩ := hF
      refine WL.e h_33 (store_row (P := Try.prog) (h := h_29) (t := 3) (v := (.int .i64 t29)) (by kernel_rfl) (by kernel_rfl) e34) ?_
      refine WL.n ?_
      refine Go.weaken (l' := []) Fr.n ?_
      refine n22 ?_
      refine W.s (fun K35 n35 e35 q35 p35 => ?_)
      refine W.r ?_
      refine WL.a (some 4) (.int .u64 0) h_33 ?_
      refine WL.n ?_
      refine Go.weaken (l' := [(4, .int .u64 0)]) (Fr.c Fr.n) ?_
      refine n35 ?_
      refine W.ret (by kernel_rfl) ?_
      refine q10 ?_
      obtain ⟨hF, hF2⟩ := ret_inj hF; subst hF; subst hF2
      exact leave_of (rs := [.tmp 4]) (vs := [.int .u64 0]) (by kernel_rfl) (res_tmp (by kernel_rfl) res_nil) (by kernel_rfl)
    | false =>
      replace hF := ifB_f hF
      refine W.f ?_
      refine W.skip (by kernel_rfl) ?_
      refine n10 ?_
      refine W.s (fun K36 n36 e36 q36 p36 => ?_)
      refine W.r ?_
      refine WL.a (some 5) (.int .u64 0) h ?_
      refine WL.n ?_
      refine Go.weaken (l' := [(0, t0), (1, .int .i64 t1), (5, .int .u64 0)]) (Fr.c (Fr.c (Fr.c Fr.n))) ?_
      refine n36 ?_
      refine W.s (fun K37 n37 e37 q37 p37 => ?_)
      refine W.s (fun K38 n38 e38 q38 p38 => ?_)
      refine W.r ?_
      refine WL.a (some 6) (.int .i64 0) h ?_
      refine WL.n ?_
      refine Go.weaken (l' := [(0, t0), (1, .int .i64 t1), (5, .int .u64 0), (6, .int .i64 0)]) (Fr.c (Fr.c (Fr.c (Fr.c Fr.n)))) ?_
      refine n38 ?_
      replace hF := lett_some hF; obtain ⟨k40, e40, hF⟩ := hF
      have J40 : ∀ (t5 : Int) (h_41 : AHeap), k40 t5 h_41 = some (rR, hR) → Go w0 m0 (Func.ntmps Try.f38) (K37 .normal) [(0, t0), (1, .int .i64 t1), (5, .int .u64 t5)] [] h_41 := by
        intro t5 h_41 hF
        rw [e40] at hF
        refine n37 ?_
        refine W.s (fun K42 n42 e42 q42 p42 => ?_)
        refine W.r ?_
        refine WL.a (some 54) t0 h_41 ?_
        refine WL.a (some 55) t0 h_41 ?_
        replace hF := obind_some hF; obtain ⟨t56, e43, hF⟩ := hF
        refine WL.b (some 56) t56 h_41 (nil_chk (h := h_41) e43) ?_
        replace hF := obind_some hF; obtain ⟨t57, e44, hF⟩ := hF
        refine WL.b (some 57) t57 h_41 (field_ptr (P := Try.prog) (h := h_41) (s := 85) (f := 1) (by kernel_rfl) e44) ?_
        replace hF := obind_some hF; obtain ⟨v58, e45, hF⟩ := hF
        replace hF := obind_some hF; obtain ⟨t58, c46, hF⟩ := hF
        have c46 := avInt_some c46
        subst c46
        refine WL.b (some 58) (.int .i64 t58) h_41 (load_cell (P := Try.prog) (h := h_41) (t := 3) (by kernel_rfl) e45) ?_
        refine WL.a (some 59) (.int .i64 t1) h_41 ?_
        replace hF := lett_some hF; obtain ⟨t60, e47, hF⟩ := hF
        refine WL.val (d := (some 60)) (v := .int .i64 t60) (h' := h_41) (by kernel_rfl) (by kernel_rfl) (val_of (AV.int .i64) e47 (by kernel_rfl)) ?_
        replace hF := obind_some hF; obtain ⟨t61, e48, hF⟩ := hF
        refine WL.b (some 61) t61 h_41 (nil_chk (h := h_41) e48) ?_
        replace hF := obind_some hF; obtain ⟨t62, e49, hF⟩ := hF
        refine WL.b (some 62) t62 h_41 (field_ptr (P := Try.prog) (h := h_41) (s := 85) (f := 1) (by kernel_rfl) e49) ?_
        replace hF := obind_some hF; obtain ⟨h_50, e51, hF⟩ := hF
        refine WL.e h_50 (store_row (P := Try.prog) (h := h_41) (t := 3) (v := (.int .i64 t60)) (by kernel_rfl) (by kernel_rfl) e51) ?_
        refine WL.n ?_
        refine Go.weaken (l' := [(5, .int .u64 t5)]) (Fr.c Fr.n) ?_
        refine n42 ?_
        refine W.s (fun K52 n52 e52 q52 p52 => ?_)
        refine W.r ?_
        refine WL.a (some 63) (.int .u64 t5) h_50 ?_
        refine WL.a (some 4) (.int .u64 t5) h_50 ?_
        refine WL.n ?_
        refine Go.weaken (l' := [(4, .int .u64 t5)]) (Fr.c Fr.n) ?_
        refine n52 ?_
        refine W.ret (by kernel_rfl) ?_
        obtain ⟨hF, hF2⟩ := ret_inj hF; subst hF; subst hF2
        exact leave_of (rs := [.tmp 4]) (vs := [.int .u64 t5]) (by kernel_rfl) (res_tmp (by kernel_rfl) res_nil) (by kernel_rfl)
      refine W.blockK (by kernel_rfl) (fun K39 n39 s39 o39 q39 p39 => ?_)
      refine W.loopK (by kernel_rfl) (fun I53 K53 b53 n53 e53 q53 p53 => ?_)
      have L53 : ∀ (m : Nat) (t5_54 : Int) (t6 : Int) (h_55 : AHeap), ref01_Reader_Number_L0 t0 t1 k40 m t5_54 t6 h_55 = some (rR, hR) → Go w0 m0 (Func.ntmps Try.f38) I53 [(0, t0), (1, .int .i64 t1), (5, .int .u64 t5_54), (6, .int .i64 t6)] [] h_55 := by
        intro m
        induction m with
        | zero => intro t5_54 t6 h_55 hF; cases hF
        | succ m ih53 =>
          intro t5_54 t6 h_55 hF
          rw [ref01_Reader_Number_L0_s] at hF; unfold ref01_Reader_Number_L0b at hF
          refine b53 ?_
          refine W.s (fun K56 n56 e56 q56 p56 => ?_)
          refine W.s (fun K57 n57 e57 q57 p57 => ?_)
          refine W.r ?_
          refine WL.a (some 34) (.int .i64 t6) h_55 ?_
          refine WL.a (some 35) (.int .i64 t1) h_55 ?_
          replace hF := lett_some hF; obtain ⟨t36, e58, hF⟩ := hF
          refine WL.val (d := (some 36)) (v := .bool t36) (h' := h_55) (by kernel_rfl) (by kernel_rfl) (val_of AV.bool e58 (by kernel_rfl)) ?_
          refine WL.n ?_
          refine Go.weaken (l' := [(0, t0), (1, .int .i64 t1), (5, .int .u64 t5_54), (6, .int .i64 t6), (36, .bool t36)]) (Fr.c (Fr.c (Fr.c (Fr.c (Fr.c Fr.n))))) ?_
          refine n57 ?_
          cases t36 with
          | true =>
            replace hF := ifB_t hF
            refine W.t ?_
            refine W.skip (by kernel_rfl) ?_
            refine n56 ?_
            refine W.s (fun K59 n59 e59 q59 p59 => ?_)
            refine W.blockK (by kernel_rfl) (fun K60 n60 s60 o60 q60 p60 => ?_)
            refine W.draw (by kernel_rfl) (hc.ok w0) (plan := [0, 1, 2, 3, 4, 5, 6, 7, 8, 9, 10, 11, 12, 13, 14, 15]) (by kernel_rfl) (by kernel_rfl) (by kernel_rfl) ?_
            refine WD.a 0 (some 39) (.int .u64 t5_54) h_55 ?_
            replace hF := lett_some hF; obtain ⟨t40, e61, hF⟩ := hF
            refine WD.val (d := (some 40)) (v := .int .u64 t40) (h' := h_55) (by kernel_rfl) (by kernel_rfl) (val_of (AV.int .u64) e61 (by kernel_rfl)) (k := 0) (by kernel_rfl) (fun e => absurd e (by decide)) (by decide) ?_
            refine WD.a 0 (some 41) t0 h_55 ?_
            replace hF := obind_some hF; obtain ⟨t42, e62, hF⟩ := hF
            refine WD.b 0 (some 42) t42 h_55 (nil_chk (h := h_55) e62) ?_
            replace hF := obind_some hF; obtain ⟨t43, e63, hF⟩ := hF
            refine WD.b 0 (some 43) t43 h_55 (field_ptr (P := Try.prog) (h := h_55) (s := 85) (f := 0) (by kernel_rfl) e63) ?_
            replace hF := obind_some hF; obtain ⟨v44, e64, hF⟩ := hF
            replace hF := obind_some hF; obtain ⟨t44, c65, hF⟩ := hF
            have c65 := avStr_some c65
            subst c65
            refine WD.b 1 (some 44) (strA t44) h_55 (load_cell (P := Try.prog) (h := h_55) (t := 9) (by kernel_rfl) e64) ?_
            refine WD.a 0 (some 45) t0 h_55 ?_
            replace hF := obind_some hF; obtain ⟨t46, e66, hF⟩ := hF
            refine WD.b 0 (some 46) t46 h_55 (nil_chk (h := h_55) e66) ?_
            replace hF := obind_some hF; obtain ⟨t47, e67, hF⟩ := hF
            refine WD.b 0 (some 47) t47 h_55 (field_ptr (P := Try.prog) (h := h_55) (s := 85) (f := 1) (by kernel_rfl) e67) ?_
            replace hF := obind_some hF; obtain ⟨v48, e68, hF⟩ := hF
            replace hF := obind_some hF; obtain ⟨t48, c69, hF⟩ := hF
            have c69 := avInt_some c69
            subst c69
            refine WD.b 1 (some 48) (.int .i64 t48) h_55 (load_cell (P := Try.prog) (h := h_55) (t := 3) (by kernel_rfl) e68) ?_
            refine WD.a 0 (some 49) (.int .i64 t6) h_55 ?_
            replace hF := lett_some hF; obtain ⟨t50, e70, hF⟩ := hF
            refine WD.val (d := (some 50)) (v := .int .i64 t50) (h' := h_55) (by kernel_rfl) (by kernel_rfl) (val_of (AV.int .i64) e70 (by kernel_rfl)) (k := 0) (by kernel_rfl) (fun e => absurd e (by decide)) (by decide) ?_
            replace hF := obind_some hF; obtain ⟨t51, e71, hF⟩ := hF
            refine WD.b 0 (some 51) (.int .u8 t51) h_55 (index_str (P := Try.prog) (h := h_55) (t := 9) (k := .i64) (by kernel_rfl) e71) ?_
            replace hF := lett_some hF; obtain ⟨t52, e72, hF⟩ := hF
            refine WD.val (d := (some 52)) (v := .int .u64 t52) (h' := h_55) (by kernel_rfl) (by kernel_rfl) (val_of (AV.int .u64) e72 (by kernel_rfl)) (k := 0) (by kernel_rfl) (fun e => absurd e (by decide)) (by decide) ?_
            replace hF := lett_some hF; obtain ⟨t53, e73, hF⟩ := hF
            refine WD.val (d := (some 53)) (v := .int .u64 t53) (h' := h_55) (by kernel_rfl) (by kernel_rfl) (val_of (AV.int .u64) e73 (by kernel_rfl)) (k := 0) (by kernel_rfl) (fun e => absurd e (by decide)) (by decide) ?_
            refine WD.val (d := (some 5)) (v := .int .u64 t53) (h' := h_55) (by kernel_rfl) (by kernel_rfl) (by kernel_rfl) (k := 2) (by kernel_rfl) (fun _ => (by kernel_rfl)) (by decide) ?_
            refine WD.nil ?_
            refine Go.weaken (l' := [(0, t0), (1, .int .i64 t1), (5, .int .u64 t53), (6, .int .i64 t6)]) (Fr.c (Fr.c (Fr.c (Fr.c Fr.n)))) ?_
            refine n60 ?_
            refine n59 ?_
            refine W.r ?_
            refine WL.a (some 37) (.int .i64 t6) h_55 ?_
            replace hF := lett_some hF; obtain ⟨t38, e74, hF⟩ := hF
            refine WL.val (d := (some 38)) (v := .int .i64 t38) (h' := h_55) (by kernel_rfl) (by kernel_rfl) (val_of (AV.int .i64) e74 (by kernel_rfl)) ?_
            refine WL.a (some 6) (.int .i64 t38) h_55 ?_
            refine WL.n ?_
            refine Go.weaken (l' := [(0, t0), (1, .int .i64 t1), (5, .int .u64 t53), (6, .int .i64 t38)]) (Fr.c (Fr.c (Fr.c (Fr.c Fr.n)))) ?_
            refine n53 ?_
            exact Go.weaken (Fr.c (Fr.c (Fr.c (Fr.c Fr.n)))) (ih53 _ _ _ hF)
          | false =>
            replace hF := ifB_f hF
            refine W.f ?_
            refine W.exit (by kernel_rfl) ?_
            refine e56 ?_
            refine e53 ?_
            refine s39 (by kernel_rfl) ?_
            exact Go.weaken (Fr.c (Fr.c (Fr.c Fr.n))) (J40 _ _ hF)
      exact Go.weaken (Fr.c (Fr.c (Fr.c (Fr.c Fr.n)))) (L53 _ _ _ _ hF)
noncomputable def ref01_Reader_Number_fn (call : CallF) (n : Nat) : FnT := fun args h => match args with
  | [x0, x1] => obind (avInt .i64 x1) fun t1 => ref01_Reader_Number call n x0 t1 h
  | _ => none
set_option maxRecDepth 100000 in
theorem ref01_Reader_Number_fn_eq (call : CallF) (n : Nat) (t0 : AV) (t1 : Int) (h : AHeap) : ref01_Reader_Number_fn call n [t0, .int .i64 t1] h = ref01_Reader_Number call n t0 t1 h :=
  (Eq.trans (obind_eq (fun t1 => ref01_Reader_Number call n t0 t1 h) (avInt_int .i64 t1)) rfl)
theorem ref01_Reader_Number_holds {call : CallF} (hc : SaysAll Try.prog call) (n : Nat) : Holds Try.prog 38 (ref01_Reader_Number_fn call n) := by
  intro args h r h2 e
  unfold ref01_Reader_Number_fn at e
  split at e
  · replace e := obind_some e; obtain ⟨t1, c1, e⟩ := e; have c1 := avInt_some c1; subst c1
    exact ref01_Reader_Number_ok hc e
  · cases e

noncomputable def ref01_Reader_Bool (call : CallF) (_ : Nat) (t0 : AV) (h : AHeap) : R :=
  obind (nilC t0) fun t6 =>
  obind (fldP 1 t6) fun t7 =>
  obind (ldCell h t7) fun v8 =>
  obind (avInt .i64 v8) fun t8 =>
  callN (call 38 [t0, .int .i64 1] h) fun r10 h_8 =>
  obind (avInt .u64 r10) fun t10 =>
  obind (nilC t0) fun t12 =>
  obind (fldP 2 t12) fun t13 =>
  obind (ldCell h_8 t13) fun v14 =>
  obind (avInt .i64 v14) fun t14 =>
  lett ((t14 : Int) == 0) fun (t15 : Bool) =>
  lett (fun (t19 : Bool) (h_18 : AHeap) =>
    ifB t19
    (
      obind (nilC t0) fun t23 =>
      obind (fldP 2 t23) fun t24 =>
      obind (stRow h_18 1 [.int .i64 7] t24) fun h_24 =>
      obind (nilC t0) fun t25 =>
      obind (fldP 3 t25) fun t26 =>
      obind (stRow h_24 1 [.int .i64 t8] t26) fun h_28 =>
      some (.ret (.bool false), h_28))
    (
      lett ((t10 : Int) == 1) fun (t28 : Bool) =>
      some (.ret (.bool t28), h_18))) fun j19 =>
  ifB t15
  (
    lett (decide (t10 > 1)) fun (t18 : Bool) =>
    j19 t18 h_8)
  (
    j19 false h_8)
set_option maxHeartbeats 4000000 in
set_option maxRecDepth 20000 in
theorem ref01_Reader_Bool_ok {call : CallF} (hc : SaysAll Try.prog call) {n : Nat} {t0 : AV} {h : AHeap} {rR : ARes} {hR : AHeap} (hF : ref01_Reader_Bool call n t0 h = some (rR, hR)) : Says Try.prog 40 [t0] h rR hR := by
  unfold ref01_Reader_Bool at hF
  refine says_of (fn := Try.f40) Try.func40 (c := codeOf Try.f40) (by kernel_rfl) (by kernel_rfl) (fun w0 m0 => ?_)
  refine W.weaken (l' := [(0, t0)]) (Fr.c Fr.n) ?_
  refine W.s (fun K1 n1 e1 q1 p1 => ?_)
  refine W.r ?_
  refine WL.a (some 2) (.bool false) h ?_
  refine WL.n ?_
  refine Go.weaken (l' := [(0, t0)]) (Fr.c Fr.n) ?_
  refine n1 ?_
  refine W.s (fun K2 n2 e2 q2 p2 => ?_)
  refine W.r ?_
  refine WL.a (some 5) t0 h ?_
  replace hF := obind_some hF; obtain ⟨t6, e3, hF⟩ := hF
  refine WL.b (some 6) t6 h (nil_chk (h := h) e3) ?_
  replace hF := obind_some hF; obtain ⟨t7, e4, hF⟩ := hF
  refine WL.b (some 7) t7 h (field_ptr (P := Try.prog) (h := h) (s := 85) (f := 1) (by kernel_rfl) e4) ?_
  replace hF := obind_some hF; obtain ⟨v8, e5, hF⟩ := hF
  replace hF := obind_some hF; obtain ⟨t8, c6, hF⟩ := hF
  have c6 := avInt_some c6
  subst c6
  refine WL.b (some 8) (.int .i64 t8) h (load_cell (P := Try.prog) (h := h) (t := 3) (by kernel_rfl) e5) ?_
  refine WL.a (some 3) (.int .i64 t8) h ?_
  refine WL.n ?_
  refine Go.weaken (l' := [(0, t0), (3, .int .i64 t8)]) (Fr.c (Fr.c Fr.n)) ?_
  refine n2 ?_
  refine W.s (fun K7 n7 e7 q7 p7 => ?_)
  refine W.r ?_
  refine WL.a (some 9) t0 h ?_
  replace hF := callN_some hF; obtain ⟨r10, h_8, e9, hF⟩ := hF
  replace hF := obind_some hF; obtain ⟨t10, c10, hF⟩ := hF
  have c10 := avInt_some c10
  subst c10
  refine WL.c (hc.ok w0) (some 10) e9 ?_
  refine WL.a (some 4) (.int .u64 t10) h_8 ?_
  refine WL.n ?_
  refine Go.weaken (l' := [(0, t0), (3, .int .i64 t8), (4, .int .u64 t10)]) (Fr.c (Fr.c (Fr.c Fr.n))) ?_
  refine n7 ?_
  refine W.s (fun K11 n11 e11 q11 p11 => ?_)
  refine W.s (fun K12 n12 e12 q12 p12 => ?_)
  refine W.r ?_
  refine WL.a (some 11) t0 h_8 ?_
  replace hF := obind_some hF; obtain ⟨t12, e13, hF⟩ := hF
  refine WL.b (some 12) t12 h_8 (nil_chk (h := h_8) e13) ?_
  replace hF := obind_some hF; obtain ⟨t13, e14, hF⟩ := hF
  refine WL.b (some 13) t13 h_8 (field_ptr (P := Try.prog) (h := h_8) (s := 85) (f := 2) (by kernel_rfl) e14) ?_
  replace hF := obind_some hF; obtain ⟨v14, e15, hF⟩ := hF
  replace hF := obind_some hF; obtain ⟨t14, c16, hF⟩ := hF
  have c16 := avInt_some c16
  subst c16
  refine WL.b (some 14) (.int .i64 t14) h_8 (load_cell (P := Try.prog) (h := h_8) (t := 3) (by kernel_rfl) e15) ?_
  replace hF := lett_some hF; obtain ⟨t15, e17, hF⟩ := hF
  refine WL.val (d := (some 15)) (v := .bool t15) (h' := h_8) (by kernel_rfl) (by kernel_rfl) (val_of AV.bool e17 (by kernel_rfl)) ?_
  refine WL.a (some 16) (.bool t15) h_8 ?_
  replace hF := lett_some hF; obtain ⟨j19, e19, hF⟩ := hF
  have J20 : ∀ (t19 : Bool) (h_18 : AHeap), j19 t19 h_18 = some (rR, hR) → WL Try.prog w0 m0 (Func.ntmps Try.f40) (Code.ops (Code.p1 (Code.p1 (Code.p2 (Code.p2 (Code.p2 (codeOf Try.f40))))))) 9 K12 [(0, t0), (3, .int .i64 t8), (4, .int .u64 t10), (19, .bool t19)] [] h_18 := by
    intro t19 h_18 hF
    rw [e19] at hF
    refine WL.n ?_
    refine Go.weaken (l' := [(0, t0), (3, .int .i64 t8), (4, .int .u64 t10), (19, .bool t19)]) (Fr.c (Fr.c (Fr.c (Fr.c Fr.n)))) ?_
    refine n12 ?_
    cases t19 with
    | true =>
      replace hF := ifB_t hF
      refine W.t ?_
      refine W.s (fun K21 n21 e21 q21 p21 => ?_)
      refine W.r ?_
      refine WL.a (some 20) t0 h_18 ?_
      refine WL.a (some 21) t0 h_18 ?_
      refine WL.a (some 22) (.int .i64 t8) h_18 ?_
      replace hF := obind_some hF; obtain ⟨t23, e22, hF⟩ := hF
      refine WL.b (some 23) t23 h_18 (nil_chk (h := h_18) e22) ?_
      replace hF := obind_some hF; obtain ⟨t24, e23, hF⟩ := hF
      refine WL.b (some 24) t24 h_18 (field_ptr (P := Try.prog) (h := h_18) (s := 85) (f := 2) (by kernel_rfl) e23) ?_
      replace hF := obind_some hF; obtain ⟨h_24, e25, hF⟩ := hF
      refine WL.e h_24 (store_row (P := Try.prog) (h := h_18) (t := 3) (v := (.int .i64 7)) (by kernel_rfl) (by kernel_rfl) e25) ?_
      replace hF := obind_some hF; obtain ⟨t25, e26, hF⟩ := hF
      refine WL.b (some 25) t25 h_24 (nil_chk (h := h_24) e26) ?_
      replace hF := obind_some hF; obtain ⟨t26, e27, hF⟩ := hF
      refine WL.b (some 26) t26 h_24 (field_ptr (P := Try.prog) (h := h_24) (s := 85) (f := 3) (by kernel_rfl) e27) ?_
      replace hF := obind_some hF; obtain ⟨h_28, e29, hF⟩ := hF
      refine WL.e h_28 (store_row (P := Try.prog) (h := h_24) (t := 3) (v := (.int .i64 t8)) (by kernel_rfl) (by kernel_rfl) e29) ?_
      refine WL.n ?_
      refine Go.weaken (l' := []) Fr.n ?_
      refine n21 ?_
      refine W.s (fun K30 n30 e30 q30 p30 => ?_)
      refine W.r ?_
      refine WL.a (some 2) (.bool false) h_28 ?_
      refine WL.n ?_
      refine Go.weaken (l' := [(2, .bool false)]) (Fr.c Fr.n) ?_
      refine n30 ?_
      refine W.ret (by kernel_rfl) ?_
      refine q11 ?_
      obtain ⟨hF, hF2⟩ := ret_inj hF; subst hF; subst hF2
      exact leave_of (rs := [.tmp 2]) (vs := [.bool false]) (by kernel_rfl) (res_tmp (by kernel_rfl) res_nil) (by kernel_rfl)
    | false =>
      replace hF := ifB_f hF
      refine W.f ?_
      refine W.skip (by kernel_rfl) ?_
      refine n11 ?_
      refine W.s (fun K31 n31 e31 q31 p31 => ?_)
      refine W.r ?_
      refine WL.a (some 27) (.int .u64 t10) h_18 ?_
      replace hF := lett_some hF; obtain ⟨t28, e32, hF⟩ := hF
      refine WL.val (d := (some 28)) (v := .bool t28) (h' := h_18) (by kernel_rfl) (by kernel_rfl) (val_of AV.bool e32 (by kernel_rfl)) ?_
      refine WL.a (some 2) (.bool t28) h_18 ?_
      refine WL.n ?_
      refine Go.weaken (l' := [(2, .bool t28)]) (Fr.c Fr.n) ?_
      refine n31 ?_
      refine W.ret (by kernel_rfl) ?_
      obtain ⟨hF, hF2⟩ := ret_inj hF; subst hF; subst hF2
      exact leave_of (rs := [.tmp 2]) (vs := [.bool t28]) (by kernel_rfl) (res_tmp (by kernel_rfl) res_nil) (by kernel_rfl)
  cases t15 with
  | true =>
    replace hF := ifB_t hF
    refine WL.a (some 17) (.int .u64 t10) h_8 ?_
    replace hF := lett_some hF; obtain ⟨t18, e33, hF⟩ := hF
    refine WL.val (d := (some 18)) (v := .bool t18) (h' := h_8) (by kernel_rfl) (by kernel_rfl) (val_of AV.bool e33 (by kernel_rfl)) ?_
    refine WL.a (some 19) (.bool t18) h_8 ?_
    exact WL.weaken (Fr.c (Fr.c (Fr.c (Fr.c Fr.n)))) (J20 _ _ hF)
  | false =>
    replace hF := ifB_f hF
    refine WL.o (some 17) ?_
    refine WL.o (some 18) ?_
    refine WL.a (some 19) (.bool false) h_8 ?_
    exact WL.weaken (Fr.c (Fr.c (Fr.c (Fr.c Fr.n)))) (J20 _ _ hF)
noncomputable def ref01_Reader_Bool_fn (call : CallF) (n : Nat) : FnT := fun args h => match args with
  | [x0] => ref01_Reader_Bool call n x0 h
  | _ => none
set_option maxRecDepth 100000 in
theorem ref01_Reader_Bool_fn_eq (call : CallF) (n : Nat) (t0 : AV) (h : AHeap) : ref01_Reader_Bool_fn call n [t0] h = ref01_Reader_Bool call n t0 h :=
  rfl
theorem ref01_Reader_Bool_holds {call : CallF} (hc : SaysAll Try.prog call) (n : Nat) : Holds Try.prog 40 (ref01_Reader_Bool_fn call n) := by
  intro args h r h2 e
  unfold ref01_Reader_Bool_fn at e
  split at e
  · exact ref01_Reader_Bool_ok hc e
  · cases e

noncomputable def ref01_Reader_Text (call : CallF) (_ : Nat) (t0 : AV) (t1 : Int) (h : AHeap) : R :=
  obind (nilC t0) fun t9 =>
  obind (fldP 1 t9) fun t10 =>
  obind (ldCell h t10) fun v11 =>
  obind (avInt .i64 v11) fun t11 =>
  callN (call 38 [t0, .int .i64 4] h) fun r13 h_8 =>
  obind (avInt .u64 r13) fun t13 =>
  obind (nilC t0) fun t15 =>
  obind (fldP 2 t15) fun t16 =>
  obind (ldCell h_8 t16) fun v17 =>
  obind (avInt .i64 v17) fun t17 =>
  lett ((t17 : Int) != 0) fun (t18 : Bool) =>
  ifB t18
  (
    some (.ret (strA ([] : Bytes)), h_8))
  (
    lett (decide (t1 < 0)) fun (t21 : Bool) =>
    lett (fun (t27 : Bool) (h_23 : AHeap) =>
      ifB t27
      (
        obind (nilC t0) fun t31 =>
        obind (fldP 2 t31) fun t32 =>
        obind (stRow h_23 1 [.int .i64 3] t32) fun h_29 =>
        obind (nilC t0) fun t33 =>
        obind (fldP 3 t33) fun t34 =>
        obind (stRow h_29 1 [.int .i64 t11] t34) fun h_33 =>
        some (.ret (strA ([] : Bytes)), h_33))
      (
        obind (nilC t0) fun t38 =>
        obind (fldP 0 t38) fun t39 =>
        obind (ldCell h_23 t39) fun v40 =>
        obind (avStr v40) fun t40 =>
        obind (nilC t0) fun t43 =>
        obind (fldP 1 t43) fun t44 =>
        obind (ldCell h_23 t44) fun v45 =>
        obind (avInt .i64 v45) fun t45 =>
        lett (IntKind.i64.wrap ((lenS t40) - t45)) fun (t46 : Int) =>
        lett (IntKind.u64.wrap t46) fun (t47 : Int) =>
        lett (decide (t13 > t47)) fun (t48 : Bool) =>
        ifB t48
        (
          obind (nilC t0) fun t52 =>
          obind (fldP 2 t52) fun t53 =>
          obind (stRow h_23 1 [.int .i64 7] t53) fun h_51 =>
          obind (nilC t0) fun t54 =>
          obind (fldP 3 t54) fun t55 =>
          obind (stRow h_51 1 [.int .i64 t11] t55) fun h_55 =>
          some (.ret (strA ([] : Bytes)), h_55))
        (
          obind (nilC t0) fun t57 =>
          obind (fldP 1 t57) fun t58 =>
          obind (ldCell h_23 t58) fun v59 =>
          obind (avInt .i64 v59) fun t59 =>
          obind (nilC t0) fun t62 =>
          obind (fldP 1 t62) fun t63 =>
          obind (ldCell h_23 t63) fun v64 =>
          obind (avInt .i64 v64) fun t64 =>
          lett (IntKind.i64.wrap t13) fun (t66 : Int) =>
          lett (IntKind.i64.wrap (t64 + t66)) fun (t67 : Int) =>
          obind (nilC t0) fun t68 =>
          obind (fldP 1 t68) fun t69 =>
          obind (stRow h_23 1 [.int .i64 t67] t69) fun h_72 =>
          obind (nilC t0) fun t71 =>
          obind (fldP 0 t71) fun t72 =>
          obind (ldCell h_72 t72) fun v73 =>
          obind (avStr v73) fun t73 =>
          obind (nilC t0) fun t76 =>
          obind (fldP 1 t76) fun t77 =>
          obind (ldCell h_72 t77) fun v78 =>
          obind (avInt .i64 v78) fun t78 =>
          obind (sliceS t73 t59 t78) fun t79 =>
          some (.ret (strA t79), h_72)))) fun j27 =>
    ifB t21
    (
      j27 true h_8)
    (
      lett (IntKind.u64.wrap t1) fun (t25 : Int) =>
      lett (decide (t13 > t25)) fun (t26 : Bool) =>
      j27 t26 h_8))
set_option maxHeartbeats 4000000 in
set_option maxRecDepth 20000 in
theorem ref01_Reader_Text_ok {call : CallF} (hc : SaysAll Try.prog call) {n : Nat} {t0 : AV} {t1 : Int} {h : AHeap} {rR : ARes} {hR : AHeap} (hF : ref01_Reader_Text call n t0 t1 h = some (rR, hR)) : Says Try.prog 41 [t0, .int .i64 t1] h rR hR := by
  unfold ref01_Reader_Text at hF
  refine says_of (fn := Try.f41) Try.func41 (c := codeOf Try.f41) (by kernel_rfl) (by kernel_rfl) (fun w0 m0 => ?_)
  refine W.weaken (l' := [(0, t0), (1, .int .i64 t1)]) (Fr.c (Fr.c Fr.n)) ?_
  refine W.s (fun K1 n1 e1 q1 p1 => ?_)
  refine W.r ?_
  refine WL.a (some 4) (strA ([] : Bytes)) h ?_
  refine WL.n ?_
  refine Go.weaken (l' := [(0, t0), (1, .int .i64 t1)]) (Fr.c (Fr.c Fr.n)) ?_
  refine n1 ?_
  refine W.s (fun K2 n2 e2 q2 p2 => ?_)
  refine W.r ?_
  refine WL.a (some 8) t0 h ?_
  replace hF := obind_some hF; obtain ⟨t9, e3, hF⟩ := hF
  refine WL.b (some 9) t9 h (nil_chk (h := h) e3) ?_
  replace hF := obind_some hF; obtain ⟨t10, e4, hF⟩ := hF
  refine WL.b (some 10) t10 h (field_ptr (P := Try.prog) (h := h) (s := 85) (f := 1) (by kernel_rfl) e4) ?_
  replace hF := obind_some hF; obtain ⟨v11, e5, hF⟩ := hF
  replace hF := obind_some hF; obtain ⟨t11, c6, hF⟩ := hF
  have c6 := avInt_some c6
  subst c6
  refine WL.b (some 11) (.int .i64 t11) h (load_cell (P := Try.prog) (h := h) (t := 3) (by kernel_rfl) e5) ?_
  refine WL.a (some 5) (.int .i64 t11) h ?_
  refine WL.n ?_
  refine Go.weaken (l' := [(0, t0), (1, .int .i64 t1), (5, .int .i64 t11)]) (Fr.c (Fr.c (Fr.c Fr.n))) ?_
  refine n2 ?_
  refine W.s (fun K7 n7 e7 q7 p7 => ?_)
  refine W.r ?_
  refine WL.a (some 12) t0 h ?_
  replace hF := callN_some hF; obtain ⟨r13, h_8, e9, hF⟩ := hF
  replace hF := obind_some hF; obtain ⟨t13, c10, hF⟩ := hF
  have c10 := avInt_some c10
  subst c10
  refine WL.c (hc.ok w0) (some 13) e9 ?_
  refine WL.a (some 6) (.int .u64 t13) h_8 ?_
  refine WL.n ?_
  refine Go.weaken (l' := [(0, t0), (1, .int .i64 t1), (5, .int .i64 t11), (6, .int .u64 t13)]) (Fr.c (Fr.c (Fr.c (Fr.c Fr.n)))) ?_
  refine n7 ?_
  refine W.s (fun K11 n11 e11 q11 p11 => ?_)
  refine W.s (fun K12 n12 e12 q12 p12 => ?_)
  refine W.r ?_
  refine WL.a (some 14) t0 h_8 ?_
  replace hF := obind_some hF; obtain ⟨t15, e13, hF⟩ := hF
  refine WL.b (some 15) t15 h_8 (nil_chk (h := h_8) e13) ?_
  replace hF := obind_some hF; obtain ⟨t16, e14, hF⟩ := hF
  refine WL.b (some 16) t16 h_8 (field_ptr (P := Try.prog) (h := h_8) (s := 85) (f := 2) (by kernel_rfl) e14) ?_
  replace hF := obind_some hF; obtain ⟨v17, e15, hF⟩ := hF
  replace hF := obind_some hF; obtain ⟨t17, c16, hF⟩ := hF
  have c16 := avInt_some c16
  subst c16
  refine WL.b (some 17) (.int .i64 t17) h_8 (load_cell (P := Try.prog) (h := h_8) (t := 3) (by kernel_rfl) e15) ?_
  replace hF := lett_some hF; obtain ⟨t18, e17, hF⟩ := hF
  refine WL.val (d := (some 18)) (v := .bool t18) (h' := h_8) (by kernel_rfl) (by kernel_rfl) (val_of AV.bool e17 (by kernel_rfl)) ?_
  refine WL.n ?_
  refine Go.weaken (l' := [(0, t0), (1, .int .i64 t1), (5, .int .i64 t11), (6, .int .u64 t13), (18, .bool t18)]) (Fr.c (Fr.c (Fr.c (Fr.c (Fr.c Fr.n))))) ?_
  refine n12 ?_
  cases t18 with
  | true =>
    replace hF := ifB_t hF
    refine W.t ?_
    refine W.s (fun K18 n18 e18 q18 p18 => ?_)
    refine W.r ?_
    refine WL.a (some 4) (strA ([] : Bytes)) h_8 ?_
    refine WL.n ?_
    refine Go.weaken (l' := [(4, strA ([] : Bytes))]) (Fr.c Fr.n) ?_
    refine n18 ?_
    refine W.ret (by kernel_rfl) ?_
    refine q11 ?_
    obtain ⟨hF, hF2⟩ := ret_inj hF; subst hF; subst hF2
    exact leave_of (rs := [.tmp 4]) (vs := [strA ([] : Bytes)]) (by kernel_rfl) (res_tmp (by kernel_rfl) res_nil) (by kernel_rfl)
  | false =>
    replace hF := ifB_f hF
    refine W.f ?_
    refine W.skip (by kernel_rfl) ?_
    refine n11 ?_
    refine W.s (fun K19 n19 e19 q19 p19 => ?_)
    refine W.blockK (by kernel_rfl) (fun K20 n20 s20 o20 q20 p20 => ?_)
    refine W.s (fun K21 n21 e21 q21 p21 => ?_)
    refine W.r ?_
    refine WL.a (some 20) (.int .i64 t1) h_8 ?_
    replace hF := lett_some hF; obtain ⟨t21, e22, hF⟩ := hF
    refine WL.val (d := (some 21)) (v := .bool t21) (h' := h_8) (by kernel_rfl) (by kernel_rfl) (val_of AV.bool e22 (by kernel_rfl)) ?_
    refine WL.a (some 22) (.bool t21) h_8 ?_
    replace hF := lett_some hF; obtain ⟨j27, e24, hF⟩ := hF
    have J25 : ∀ (t27 : Bool) (h_23 : AHeap), j27 t27 h_23 = some (rR, hR) → WL Try.prog w0 m0 (Func.ntmps Try.f41) (Code.ops (Code.p1 (Code.p1 (Code.p1 (Code.p2 (Code.p2 (Code.p2 (Code.p2 (codeOf Try.f41))))))))) 8 K21 [(0, t0), (5, .int .i64 t11), (6, .int .u64 t13), (27, .bool t27)] [] h_23 := by
      intro t27 h_23 hF
      rw [e24] at hF
      refine WL.a (some 19) (.bool t27) h_23 ?_
      refine WL.n ?_
      refine Go.weaken (l' := [(0, t0), (5, .int .i64 t11), (6, .int .u64 t13), (19, .bool t27)]) (Fr.c (Fr.c (Fr.c (Fr.c Fr.n)))) ?_
      refine n21 ?_
      cases t27 with
      | true =>
        replace hF := ifB_t hF
        refine W.t ?_
        refine W.s (fun K26 n26 e26 q26 p26 => ?_)
        refine W.r ?_
        refine WL.a (some 28) t0 h_23 ?_
        refine WL.a (some 29) t0 h_23 ?_
        refine WL.a (some 30) (.int .i64 t11) h_23 ?_
        replace hF := obind_some hF; obtain ⟨t31, e27, hF⟩ := hF
        refine WL.b (some 31) t31 h_23 (nil_chk (h := h_23) e27) ?_
        replace hF := obind_some hF; obtain ⟨t32, e28, hF⟩ := hF
        refine WL.b (some 32) t32 h_23 (field_ptr (P := Try.prog) (h := h_23) (s := 85) (f := 2) (by kernel_rfl) e28) ?_
        replace hF := obind_some hF; obtain ⟨h_29, e30, hF⟩ := hF
        refine WL.e h_29 (store_row (P := Try.prog) (h := h_23) (t := 3) (v := (.int .i64 3)) (by kernel_rfl) (by kernel_rfl) e30) ?_
        replace hF := obind_some hF; obtain ⟨t33, e31, hF⟩ := hF
        refine WL.b (some 33) t33 h_29 (nil_chk (h := h_29) e31) ?_
        replace hF := obind_some hF; obtain ⟨t34, e32, hF⟩ := hF
        refine WL.b (some 34) t34 h_29 (field_ptr (P := Try.prog) (h := h_29) (s := 85) (f := 3) (by kernel_rfl) e32) ?_
        replace hF := obind_some hF; obtain ⟨h_33, e34, hF⟩ := hF
        refine WL.e h_33 (store_row (P := Try.prog) (h := h_29) (t := 3) (v := (.int .i64 t11)) (by kernel_rfl) (by kernel_rfl) e34) ?_
        refine WL.n ?_
        refine Go.weaken (l' := []) Fr.n ?_
        refine n26 ?_
        refine W.s (fun K35 n35 e35 q35 p35 => ?_)
        refine W.r ?_
        refine WL.a (some 4) (strA ([] : Bytes)) h_33 ?_
        refine WL.n ?_
        refine Go.weaken (l' := [(4, strA ([] : Bytes))]) (Fr.c Fr.n) ?_
        refine n35 ?_
        refine W.ret (by kernel_rfl) ?_
        refine q20 ?_
        refine q19 ?_
        obtain ⟨hF, hF2⟩ := ret_inj hF; subst hF; subst hF2
        exact leave_of (rs := [.tmp 4]) (vs := [strA ([] : Bytes)]) (by kernel_rfl) (res_tmp (by kernel_rfl) res_nil) (by kernel_rfl)
      | false =>
        replace hF := ifB_f hF
        refine W.f ?_
        refine W.s (fun K36 n36 e36 q36 p36 => ?_)
        refine W.draw (by kernel_rfl) (hc.ok w0) (plan := [0, 1, 2, 3, 4, 5, 6, 7, 8, 9, 10, 11, 12, 13]) (by kernel_rfl) (by kernel_rfl) (by kernel_rfl) ?_
        refine WD.a 0 (some 36) (.int .u64 t13) h_23 ?_
        refine WD.a 0 (some 37) t0 h_23 ?_
        replace hF := obind_some hF; obtain ⟨t38, e37, hF⟩ := hF
        refine WD.b 0 (some 38) t38 h_23 (nil_chk (h := h_23) e37) ?_
        replace hF := obind_some hF; obtain ⟨t39, e38, hF⟩ := hF
        refine WD.b 0 (some 39) t39 h_23 (field_ptr (P := Try.prog) (h := h_23) (s := 85) (f := 0) (by kernel_rfl) e38) ?_
        replace hF := obind_some hF; obtain ⟨v40, e39, hF⟩ := hF
        replace hF := obind_some hF; obtain ⟨t40, c40, hF⟩ := hF
        have c40 := avStr_some c40
        subst c40
        refine WD.b 1 (some 40) (strA t40) h_23 (load_cell (P := Try.prog) (h := h_23) (t := 9) (by kernel_rfl) e39) ?_
        refine WD.a 0 (some 41) (.int .i64 (lenS t40)) h_23 ?_
        refine WD.a 0 (some 42) t0 h_23 ?_
        replace hF := obind_some hF; obtain ⟨t43, e41, hF⟩ := hF
        refine WD.b 0 (some 43) t43 h_23 (nil_chk (h := h_23) e41) ?_
        replace hF := obind_some hF; obtain ⟨t44, e42, hF⟩ := hF
        refine WD.b 0 (some 44) t44 h_23 (field_ptr (P := Try.prog) (h := h_23) (s := 85) (f := 1) (by kernel_rfl) e42) ?_
        replace hF := obind_some hF; obtain ⟨v45, e43, hF⟩ := hF
        replace hF := obind_some hF; obtain ⟨t45, c44, hF⟩ := hF
        have c44 := avInt_some c44
        subst c44
        refine WD.b 1 (some 45) (.int .i64 t45) h_23 (load_cell (P := Try.prog) (h := h_23) (t := 3) (by kernel_rfl) e43) ?_
        replace hF := lett_some hF; obtain ⟨t46, e45, hF⟩ := hF
        refine WD.val (d := (some 46)) (v := .int .i64 t46) (h' := h_23) (by kernel_rfl) (by kernel_rfl) (val_of (AV.int .i64) e45 (by kernel_rfl)) (k := 0) (by kernel_rfl) (fun e => absurd e (by decide)) (by decide) ?_
        replace hF := lett_some hF; obtain ⟨t47, e46, hF⟩ := hF
        refine WD.val (d := (some 47)) (v := .int .u64 t47) (h' := h_23) (by kernel_rfl) (by kernel_rfl) (val_of (AV.int .u64) e46 (by kernel_rfl)) (k := 0) (by kernel_rfl) (fun e => absurd e (by decide)) (by decide) ?_
        replace hF := lett_some hF; obtain ⟨t48, e47, hF⟩ := hF
        refine WD.val (d := (some 48)) (v := .bool t48) (h' := h_23) (by kernel_rfl) (by kernel_rfl) (val_of AV.bool e47 (by kernel_rfl)) (k := 0) (by kernel_rfl) (fun e => absurd e (by decide)) (by decide) ?_
        refine WD.a 0 (some 35) (.bool t48) h_23 ?_
        refine WD.nil ?_
        refine Go.weaken (l' := [(0, t0), (5, .int .i64 t11), (6, .int .u64 t13), (35, .bool t48)]) (Fr.c (Fr.c (Fr.c (Fr.c Fr.n)))) ?_
        refine n36 ?_
        cases t48 with
        | true =>
          replace hF := ifB_t hF
          refine W.t ?_
          refine W.s (fun K48 n48 e48 q48 p48 => ?_)
          refine W.r ?_
          refine WL.a (some 49) t0 h_23 ?_
          refine WL.a (some 50) t0 h_23 ?_
          refine WL.a (some 51) (.int .i64 t11) h_23 ?_
          replace hF := obind_some hF; obtain ⟨t52, e49, hF⟩ := hF
          refine WL.b (some 52) t52 h_23 (nil_chk (h := h_23) e49) ?_
          replace hF := obind_some hF; obtain ⟨t53, e50, hF⟩ := hF
          refine WL.b (some 53) t53 h_23 (field_ptr (P := Try.prog) (h := h_23) (s := 85) (f := 2) (by kernel_rfl) e50) ?_
          replace hF := obind_some hF; obtain ⟨h_51, e52, hF⟩ := hF
          refine WL.e h_51 (store_row (P := Try.prog) (h := h_23) (t := 3) (v := (.int .i64 7)) (by kernel_rfl) (by kernel_rfl) e52) ?_
          replace hF := obind_some hF; obtain ⟨t54, e53, hF⟩ := hF
          refine WL.b (some 54) t54 h_51 (nil_chk (h := h_51) e53) ?_
          replace hF := obind_some hF; obtain ⟨t55, e54, hF⟩ := hF
          refine WL.b (some 55) t55 h_51 (field_ptr (P := Try.prog) (h := h_51) (s := 85) (f := 3) (by kernel_rfl) e54) ?_
          replace hF := obind_some hF; obtain ⟨h_55, e56, hF⟩ := hF
          refine WL.e h_55 (store_row (P := Try.prog) (h := h_51) (t := 3) (v := (.int .i64 t11)) (by kernel_rfl) (by kernel_rfl) e56) ?_
          refine WL.n ?_
          refine Go.weaken (l' := []) Fr.n ?_
          refine n48 ?_
          refine W.s (fun K57 n57 e57 q57 p57 => ?_)
          refine W.r ?_
          refine WL.a (some 4) (strA ([] : Bytes)) h_55 ?_
          refine WL.n ?_
          refine Go.weaken (l' := [(4, strA ([] : Bytes))]) (Fr.c Fr.n) ?_
          refine n57 ?_
          refine W.ret (by kernel_rfl) ?_
          refine q20 ?_
          refine q19 ?_
          obtain ⟨hF, hF2⟩ := ret_inj hF; subst hF; subst hF2
          exact leave_of (rs := [.tmp 4]) (vs := [strA ([] : Bytes)]) (by kernel_rfl) (res_tmp (by kernel_rfl) res_nil) (by kernel_rfl)
        | false =>
          replace hF := ifB_f hF
          refine W.f ?_
          refine W.skip (by kernel_rfl) ?_
          refine n20 ?_
          refine n19 ?_
          refine W.s (fun K58 n58 e58 q58 p58 => ?_)
          refine W.r ?_
          refine WL.a (some 56) t0 h_23 ?_
          replace hF := obind_some hF; obtain ⟨t57, e59, hF⟩ := hF
          refine WL.b (some 57) t57 h_23 (nil_chk (h := h_23) e59) ?_
          replace hF := obind_some hF; obtain ⟨t58, e60, hF⟩ := hF
          refine WL.b (some 58) t58 h_23 (field_ptr (P := Try.prog) (h := h_23) (s := 85) (f := 1) (by kernel_rfl) e60) ?_
          replace hF := obind_some hF; obtain ⟨v59, e61, hF⟩ := hF
          replace hF := obind_some hF; obtain ⟨t59, c62, hF⟩ := hF
          have c62 := avInt_some c62
          subst c62
          refine WL.b (some 59) (.int .i64 t59) h_23 (load_cell (P := Try.prog) (h := h_23) (t := 3) (by kernel_rfl) e61) ?_
          refine WL.a (some 7) (.int .i64 t59) h_23 ?_
          refine WL.n ?_
          refine Go.weaken (l' := [(0, t0), (6, .int .u64 t13), (7, .int .i64 t59)]) (Fr.c (Fr.c (Fr.c Fr.n))) ?_
          refine n58 ?_
          refine W.s (fun K63 n63 e63 q63 p63 => ?_)
          refine W.r ?_
          refine WL.a (some 60) t0 h_23 ?_
          refine WL.a (some 61) t0 h_23 ?_
          replace hF := obind_some hF; obtain ⟨t62, e64, hF⟩ := hF
          refine WL.b (some 62) t62 h_23 (nil_chk (h := h_23) e64) ?_
          replace hF := obind_some hF; obtain ⟨t63, e65, hF⟩ := hF
          refine WL.b (some 63) t63 h_23 (field_ptr (P := Try.prog) (h := h_23) (s := 85) (f := 1) (by kernel_rfl) e65) ?_
          replace hF := obind_some hF; obtain ⟨v64, e66, hF⟩ := hF
          replace hF := obind_some hF; obtain ⟨t64, c67, hF⟩ := hF
          have c67 := avInt_some c67
          subst c67
          refine WL.b (some 64) (.int .i64 t64) h_23 (load_cell (P := Try.prog) (h := h_23) (t := 3) (by kernel_rfl) e66) ?_
          refine WL.a (some 65) (.int .u64 t13) h_23 ?_
          replace hF := lett_some hF; obtain ⟨t66, e68, hF⟩ := hF
          refine WL.val (d := (some 66)) (v := .int .i64 t66) (h' := h_23) (by kernel_rfl) (by kernel_rfl) (val_of (AV.int .i64) e68 (by kernel_rfl)) ?_
          replace hF := lett_some hF; obtain ⟨t67, e69, hF⟩ := hF
          refine WL.val (d := (some 67)) (v := .int .i64 t67) (h' := h_23) (by kernel_rfl) (by kernel_rfl) (val_of (AV.int .i64) e69 (by kernel_rfl)) ?_
          replace hF := obind_some hF; obtain ⟨t68, e70, hF⟩ := hF
          refine WL.b (some 68) t68 h_23 (nil_chk (h := h_23) e70) ?_
          replace hF := obind_some hF; obtain ⟨t69, e71, hF⟩ := hF
          refine WL.b (some 69) t69 h_23 (field_ptr (P := Try.prog) (h := h_23) (s := 85) (f := 1) (by kernel_rfl) e71) ?_
          replace hF := obind_some hF; obtain ⟨h_72, e73, hF⟩ := hF
          refine WL.e h_72 (store_row (P := Try.prog) (h := h_23) (t := 3) (v := (.int .i64 t67)) (by kernel_rfl) (by kernel_rfl) e73) ?_
          refine WL.n ?_
          refine Go.weaken (l' := [(0, t0), (7, .int .i64 t59)]) (Fr.c (Fr.c Fr.n)) ?_
          refine n63 ?_
          refine W.s (fun K74 n74 e74 q74 p74 => ?_)
          refine W.draw (by kernel_rfl) (hc.ok w0) (plan := [0, 1, 2, 3, 4, 5, 6, 7, 8, 9, 10]) (by kernel_rfl) (by kernel_rfl) (by kernel_rfl) ?_
          refine WD.a 0 (some 70) t0 h_72 ?_
          replace hF := obind_some hF; obtain ⟨t71, e75, hF⟩ := hF
          refine WD.b 0 (some 71) t71 h_72 (nil_chk (h := h_72) e75) ?_
          replace hF := obind_some hF; obtain ⟨t72, e76, hF⟩ := hF
          refine WD.b 0 (some 72) t72 h_72 (field_ptr (P := Try.prog) (h := h_72) (s := 85) (f := 0) (by kernel_rfl) e76) ?_
          replace hF := obind_some hF; obtain ⟨v73, e77, hF⟩ := hF
          replace hF := obind_some hF; obtain ⟨t73, c78, hF⟩ := hF
          have c78 := avStr_some c78
          subst c78
          refine WD.b 1 (some 73) (strA t73) h_72 (load_cell (P := Try.prog) (h := h_72) (t := 9) (by kernel_rfl) e77) ?_
          refine WD.a 0 (some 74) (.int .i64 t59) h_72 ?_
          refine WD.a 0 (some 75) t0 h_72 ?_
          replace hF := obind_some hF; obtain ⟨t76, e79, hF⟩ := hF
          refine WD.b 0 (some 76) t76 h_72 (nil_chk (h := h_72) e79) ?_
          replace hF := obind_some hF; obtain ⟨t77, e80, hF⟩ := hF
          refine WD.b 0 (some 77) t77 h_72 (field_ptr (P := Try.prog) (h := h_72) (s := 85) (f := 1) (by kernel_rfl) e80) ?_
          replace hF := obind_some hF; obtain ⟨v78, e81, hF⟩ := hF
          replace hF := obind_some hF; obtain ⟨t78, c82, hF⟩ := hF
          have c82 := avInt_some c82
          subst c82
          refine WD.b 1 (some 78) (.int .i64 t78) h_72 (load_cell (P := Try.prog) (h := h_72) (t := 3) (by kernel_rfl) e81) ?_
          replace hF := obind_some hF; obtain ⟨t79, e83, hF⟩ := hF
          refine WD.b 0 (some 79) (strA t79) h_72 (slice_str (P := Try.prog) (h := h_72) (t := 9) (A := (some (.int .i64 t59))) (B := (some (.int .i64 t78))) (by kernel_rfl) (.inl ⟨_, rfl⟩) (.inl ⟨_, rfl⟩) e83) ?_
          refine WD.a 0 (some 4) (strA t79) h_72 ?_
          refine WD.nil ?_
          refine Go.weaken (l' := [(4, strA t79)]) (Fr.c Fr.n) ?_
          refine n74 ?_
          refine W.ret (by kernel_rfl) ?_
          obtain ⟨hF, hF2⟩ := ret_inj hF; subst hF; subst hF2
          exact leave_of (rs := [.tmp 4]) (vs := [strA t79]) (by kernel_rfl) (res_tmp (by kernel_rfl) res_nil) (by kernel_rfl)
    cases t21 with
    | true =>
      replace hF := ifB_t hF
      refine WL.o (some 23) ?_
      refine WL.o (some 24) ?_
      refine WL.o (some 25) ?_
      refine WL.o (some 26) ?_
      refine WL.a (some 27) (.bool true) h_8 ?_
      exact WL.weaken (Fr.c (Fr.c (Fr.c (Fr.c Fr.n)))) (J25 _ _ hF)
    | false =>
      replace hF := ifB_f hF
      refine WL.a (some 23) (.int .u64 t13) h_8 ?_
      refine WL.a (some 24) (.int .i64 t1) h_8 ?_
      replace hF := lett_some hF; obtain ⟨t25, e84, hF⟩ := hF
      refine WL.val (d := (some 25)) (v := .int .u64 t25) (h' := h_8) (by kernel_rfl) (by kernel_rfl) (val_of (AV.int .u64) e84 (by kernel_rfl)) ?_
      replace hF := lett_some hF; obtain ⟨t26, e85, hF⟩ := hF
      refine WL.val (d := (some 26)) (v := .bool t26) (h' := h_8) (by kernel_rfl) (by kernel_rfl) (val_of AV.bool e85 (by kernel_rfl)) ?_
      refine WL.a (some 27) (.bool t26) h_8 ?_
      exact WL.weaken (Fr.c (Fr.c (Fr.c (Fr.c Fr.n)))) (J25 _ _ hF)
noncomputable def ref01_Reader_Text_fn (call : CallF) (n : Nat) : FnT := fun args h => match args with
  | [x0, x1] => obind (avInt .i64 x1) fun t1 => ref01_Reader_Text call n x0 t1 h
  | _ => none
set_option maxRecDepth 100000 in
theorem ref01_Reader_Text_fn_eq (call : CallF) (n : Nat) (t0 : AV) (t1 : Int) (h : AHeap) : ref01_Reader_Text_fn call n [t0, .int .i64 t1] h = ref01_Reader_Text call n t0 t1 h :=
  (Eq.trans (obind_eq (fun t1 => ref01_Reader_Text call n t0 t1 h) (avInt_int .i64 t1)) rfl)
theorem ref01_Reader_Text_holds {call : CallF} (hc : SaysAll Try.prog call) (n : Nat) : Holds Try.prog 41 (ref01_Reader_Text_fn call n) := by
  intro args h r h2 e
  unfold ref01_Reader_Text_fn at e
  split at e
  · replace e := obind_some e; obtain ⟨t1, c1, e⟩ := e; have c1 := avInt_some c1; subst c1
    exact ref01_Reader_Text_ok hc e
  · cases e

noncomputable def ref01_Reader_End (_ : CallF) (_ : Nat) (t0 : AV) (h : AHeap) : R :=
  lett (fun (t20 : Bool) (h_5 : AHeap) =>
    ifB t20
    (
      obind (nilC t0) fun t22 =>
      obind (fldP 1 t22) fun t23 =>
      obind (ldCell h_5 t23) fun v24 =>
      obind (avInt .i64 v24) fun t24 =>
      some (.ret (.tup [.int .i64 7, .int .i64 t24]), h_5))
    (
      obind (nilC t0) fun t26 =>
      obind (fldP 2 t26) fun t27 =>
      obind (ldCell h_5 t27) fun v28 =>
      obind (avInt .i64 v28) fun t28 =>
      obind (nilC t0) fun t30 =>
      obind (fldP 3 t30) fun t31 =>
      obind (ldCell h_5 t31) fun v32 =>
      obind (avInt .i64 v32) fun t32 =>
      some (.ret (.tup [.int .i64 t28, .int .i64 t32]), h_5))) fun k4 =>
  obind (nilC t0) fun t5 =>
  obind (fldP 2 t5) fun t6 =>
  obind (ldCell h t6) fun v7 =>
  obind (avInt .i64 v7) fun t7 =>
  lett ((t7 : Int) == 0) fun (t8 : Bool) =>
  ifB t8
  (
    obind (nilC t0) fun t11 =>
    obind (fldP 1 t11) fun t12 =>
    obind (ldCell h t12) fun v13 =>
    obind (avInt .i64 v13) fun t13 =>
    obind (nilC t0) fun t15 =>
    obind (fldP 0 t15) fun t16 =>
    obind (ldCell h t16) fun v17 =>
    obind (avStr v17) fun t17 =>
    lett (decide (t13 < (lenS t17))) fun (t19 : Bool) =>
    k4 t19 h)
  (
    k4 false h)
set_option maxHeartbeats 4000000 in
set_option maxRecDepth 20000 in
theorem ref01_Reader_End_ok {call : CallF} (hc : SaysAll Try.prog call) {n : Nat} {t0 : AV} {h : AHeap} {rR : ARes} {hR : AHeap} (hF : ref01_Reader_End call n t0 h = some (rR, hR)) : Says Try.prog 42 [t0] h rR hR := by
  unfold ref01_Reader_End at hF
  refine says_of (fn := Try.f42) Try.func42 (c := codeOf Try.f42) (by kernel_rfl) (by kernel_rfl) (fun w0 m0 => ?_)
  refine W.weaken (l' := [(0, t0)]) (Fr.c Fr.n) ?_
  refine W.s (fun K1 n1 e1 q1 p1 => ?_)
  refine W.r ?_
  refine WL.a (some 2) (.int .i64 0) h ?_
  refine WL.a (some 3) (.int .i64 0) h ?_
  refine WL.n ?_
  refine Go.weaken (l' := [(0, t0)]) (Fr.c Fr.n) ?_
  refine n1 ?_
  refine W.s (fun K2 n2 e2 q2 p2 => ?_)
  refine W.s (fun K3 n3 e3 q3 p3 => ?_)
  replace hF := lett_some hF; obtain ⟨k4, e4, hF⟩ := hF
  have J4 : ∀ (t20 : Bool) (h_5 : AHeap), k4 t20 h_5 = some (rR, hR) → Go w0 m0 (Func.ntmps Try.f42) (K3 .normal) [(0, t0), (20, .bool t20)] [] h_5 := by
    intro t20 h_5 hF
    rw [e4] at hF
    refine n3 ?_
    cases t20 with
    | true =>
      replace hF := ifB_t hF
      refine W.t ?_
      refine W.s (fun K6 n6 e6 q6 p6 => ?_)
      refine W.draw (by kernel_rfl) (hc.ok w0) (plan := [0, 1, 2, 3, 4, 5]) (by kernel_rfl) (by kernel_rfl) (by kernel_rfl) ?_
      refine WD.a 0 (some 21) t0 h_5 ?_
      replace hF := obind_some hF; obtain ⟨t22, e7, hF⟩ := hF
      refine WD.b 0 (some 22) t22 h_5 (nil_chk (h := h_5) e7) ?_
      replace hF := obind_some hF; obtain ⟨t23, e8, hF⟩ := hF
      refine WD.b 0 (some 23) t23 h_5 (field_ptr (P := Try.prog) (h := h_5) (s := 85) (f := 1) (by kernel_rfl) e8) ?_
      replace hF := obind_some hF; obtain ⟨v24, e9, hF⟩ := hF
      replace hF := obind_some hF; obtain ⟨t24, c10, hF⟩ := hF
      have c10 := avInt_some c10
      subst c10
      refine WD.b 1 (some 24) (.int .i64 t24) h_5 (load_cell (P := Try.prog) (h := h_5) (t := 3) (by kernel_rfl) e9) ?_
      refine WD.a 0 (some 2) (.int .i64 7) h_5 ?_
      refine WD.a 0 (some 3) (.int .i64 t24) h_5 ?_
      refine WD.nil ?_
      refine Go.weaken (l' := [(2, .int .i64 7), (3, .int .i64 t24)]) (Fr.c (Fr.c Fr.n)) ?_
      refine n6 ?_
      refine W.ret (by kernel_rfl) ?_
      refine q2 ?_
      obtain ⟨hF, hF2⟩ := ret_inj hF; subst hF; subst hF2
      exact leave_of (rs := [.tmp 2, .tmp 3]) (vs := [.int .i64 7, .int .i64 t24]) (by kernel_rfl) (res_tmp (by kernel_rfl) (res_tmp (by kernel_rfl) res_nil)) (by kernel_rfl)
    | false =>
      replace hF := ifB_f hF
      refine W.f ?_
      refine W.skip (by kernel_rfl) ?_
      refine n2 ?_
      refine W.s (fun K11 n11 e11 q11 p11 => ?_)
      refine W.draw (by kernel_rfl) (hc.ok w0) (plan := [0, 1, 2, 3, 4, 5, 6, 7, 8, 9]) (by kernel_rfl) (by kernel_rfl) (by kernel_rfl) ?_
      refine WD.a 0 (some 25) t0 h_5 ?_
      replace hF := obind_some hF; obtain ⟨t26, e12, hF⟩ := hF
      refine WD.b 0 (some 26) t26 h_5 (nil_chk (h := h_5) e12) ?_
      replace hF := obind_some hF; obtain ⟨t27, e13, hF⟩ := hF
      refine WD.b 0 (some 27) t27 h_5 (field_ptr (P := Try.prog) (h := h_5) (s := 85) (f := 2) (by kernel_rfl) e13) ?_
      replace hF := obind_some hF; obtain ⟨v28, e14, hF⟩ := hF
      replace hF := obind_some hF; obtain ⟨t28, c15, hF⟩ := hF
      have c15 := avInt_some c15
      subst c15
      refine WD.b 1 (some 28) (.int .i64 t28) h_5 (load_cell (P := Try.prog) (h := h_5) (t := 3) (by kernel_rfl) e14) ?_
      refine WD.a 0 (some 29) t0 h_5 ?_
      replace hF := obind_some hF; obtain ⟨t30, e16, hF⟩ := hF
      refine WD.b 0 (some 30) t30 h_5 (nil_chk (h := h_5) e16) ?_
      replace hF := obind_some hF; obtain ⟨t31, e17, hF⟩ := hF
      refine WD.b 0 (some 31) t31 h_5 (field_ptr (P := Try.prog) (h := h_5) (s := 85) (f := 3) (by kernel_rfl) e17) ?_
      replace hF := obind_some hF; obtain ⟨v32, e18, hF⟩ := hF
      replace hF := obind_some hF; obtain ⟨t32, c19, hF⟩ := hF
      have c19 := avInt_some c19
      subst c19
      refine WD.b 1 (some 32) (.int .i64 t32) h_5 (load_cell (P := Try.prog) (h := h_5) (t := 3) (by kernel_rfl) e18) ?_
      refine WD.a 0 (some 2) (.int .i64 t28) h_5 ?_
      refine WD.a 0 (some 3) (.int .i64 t32) h_5 ?_
      refine WD.nil ?_
      refine Go.weaken (l' := [(2, .int .i64 t28), (3, .int .i64 t32)]) (Fr.c (Fr.c Fr.n)) ?_
      refine n11 ?_
      refine W.ret (by kernel_rfl) ?_
      obtain ⟨hF, hF2⟩ := ret_inj hF; subst hF; subst hF2
      exact leave_of (rs := [.tmp 2, .tmp 3]) (vs := [.int .i64 t28, .int .i64 t32]) (by kernel_rfl) (res_tmp (by kernel_rfl) (res_tmp (by kernel_rfl) res_nil)) (by kernel_rfl)
  refine W.draw (by kernel_rfl) (hc.ok w0) (plan := [0, 1, 2, 3, 4, 5, 6, 7, 8, 9, 10, 11, 12, 13, 14, 15, 16]) (by kernel_rfl) (by kernel_rfl) (by kernel_rfl) ?_
  refine WD.a 0 (some 4) t0 h ?_
  replace hF := obind_some hF; obtain ⟨t5, e20, hF⟩ := hF
  refine WD.b 0 (some 5) t5 h (nil_chk (h := h) e20) ?_
  replace hF := obind_some hF; obtain ⟨t6, e21, hF⟩ := hF
  refine WD.b 0 (some 6) t6 h (field_ptr (P := Try.prog) (h := h) (s := 85) (f := 2) (by kernel_rfl) e21) ?_
  replace hF := obind_some hF; obtain ⟨v7, e22, hF⟩ := hF
  replace hF := obind_some hF; obtain ⟨t7, c23, hF⟩ := hF
  have c23 := avInt_some c23
  subst c23
  refine WD.b 1 (some 7) (.int .i64 t7) h (load_cell (P := Try.prog) (h := h) (t := 3) (by kernel_rfl) e22) ?_
  replace hF := lett_some hF; obtain ⟨t8, e24, hF⟩ := hF
  refine WD.val (d := (some 8)) (v := .bool t8) (h' := h) (by kernel_rfl) (by kernel_rfl) (val_of AV.bool e24 (by kernel_rfl)) (k := 0) (by kernel_rfl) (fun e => absurd e (by decide)) (by decide) ?_
  refine WD.a 0 (some 9) (.bool t8) h ?_
  cases t8 with
  | true =>
    replace hF := ifB_t hF
    refine WD.a 0 (some 10) t0 h ?_
    replace hF := obind_some hF; obtain ⟨t11, e25, hF⟩ := hF
    refine WD.b 0 (some 11) t11 h (nil_chk (h := h) e25) ?_
    replace hF := obind_some hF; obtain ⟨t12, e26, hF⟩ := hF
    refine WD.b 0 (some 12) t12 h (field_ptr (P := Try.prog) (h := h) (s := 85) (f := 1) (by kernel_rfl) e26) ?_
    replace hF := obind_some hF; obtain ⟨v13, e27, hF⟩ := hF
    replace hF := obind_some hF; obtain ⟨t13, c28, hF⟩ := hF
    have c28 := avInt_some c28
    subst c28
    refine WD.b 1 (some 13) (.int .i64 t13) h (load_cell (P := Try.prog) (h := h) (t := 3) (by kernel_rfl) e27) ?_
    refine WD.a 0 (some 14) t0 h ?_
    replace hF := obind_some hF; obtain ⟨t15, e29, hF⟩ := hF
    refine WD.b 0 (some 15) t15 h (nil_chk (h := h) e29) ?_
    replace hF := obind_some hF; obtain ⟨t16, e30, hF⟩ := hF
    refine WD.b 0 (some 16) t16 h (field_ptr (P := Try.prog) (h := h) (s := 85) (f := 0) (by kernel_rfl) e30) ?_
    replace hF := obind_some hF; obtain ⟨v17, e31, hF⟩ := hF
    replace hF := obind_some hF; obtain ⟨t17, c32, hF⟩ := hF
    have c32 := avStr_some c32
    subst c32
    refine WD.b 1 (some 17) (strA t17) h (load_cell (P := Try.prog) (h := h) (t := 9) (by kernel_rfl) e31) ?_
    refine WD.a 0 (some 18) (.int .i64 (lenS t17)) h ?_
    replace hF := lett_some hF; obtain ⟨t19, e33, hF⟩ := hF
    refine WD.val (d := (some 19)) (v := .bool t19) (h' := h) (by kernel_rfl) (by kernel_rfl) (val_of AV.bool e33 (by kernel_rfl)) (k := 0) (by kernel_rfl) (fun e => absurd e (by decide)) (by decide) ?_
    refine WD.a 0 (some 20) (.bool t19) h ?_
    refine WD.nil ?_
    exact Go.weaken (Fr.c (Fr.c Fr.n)) (J4 _ _ hF)
  | false =>
    replace hF := ifB_f hF
    refine WD.not (d := (some 10)) (by kernel_rfl) (by kernel_rfl) (k := 0) (by kernel_rfl) (fun e => absurd e (by decide)) (by decide) ?_
    refine WD.not (d := (some 11)) (by kernel_rfl) (by kernel_rfl) (k := 0) (by kernel_rfl) (fun e => absurd e (by decide)) (by decide) ?_
    refine WD.not (d := (some 12)) (by kernel_rfl) (by kernel_rfl) (k := 0) (by kernel_rfl) (fun e => absurd e (by decide)) (by decide) ?_
    refine WD.not (d := (some 13)) (by kernel_rfl) (by kernel_rfl) (k := 1) (by kernel_rfl) (fun e => absurd e (by decide)) (by decide) ?_
    refine WD.not (d := (some 14)) (by kernel_rfl) (by kernel_rfl) (k := 0) (by kernel_rfl) (fun e => absurd e (by decide)) (by decide) ?_
    refine WD.not (d := (some 15)) (by kernel_rfl) (by kernel_rfl) (k := 0) (by kernel_rfl) (fun e => absurd e (by decide)) (by decide) ?_
    refine WD.not (d := (some 16)) (by kernel_rfl) (by kernel_rfl) (k := 0) (by kernel_rfl) (fun e => absurd e (by decide)) (by decide) ?_
    refine WD.not (d := (some 17)) (by kernel_rfl) (by kernel_rfl) (k := 1) (by kernel_rfl) (fun e => absurd e (by decide)) (by decide) ?_
    refine WD.not (d := (some 18)) (by kernel_rfl) (by kernel_rfl) (k := 0) (by kernel_rfl) (fun e => absurd e (by decide)) (by decide) ?_
    refine WD.not (d := (some 19)) (by kernel_rfl) (by kernel_rfl) (k := 0) (by kernel_rfl) (fun e => absurd e (by decide)) (by decide) ?_
    refine WD.a 0 (some 20) (.bool false) h ?_
    refine WD.nil ?_
    exact Go.weaken (Fr.c (Fr.c Fr.n)) (J4 _ _ hF)
noncomputable def ref01_Reader_End_fn (call : CallF) (n : Nat) : FnT := fun args h => match args with
  | [x0] => ref01_Reader_End call n x0 h
  | _ => none
set_option maxRecDepth 100000 in
theorem ref01_Reader_End_fn_eq (call : CallF) (n : Nat) (t0 : AV) (h : AHeap) : ref01_Reader_End_fn call n [t0] h = ref01_Reader_End call n t0 h :=
  rfl
theorem ref01_Reader_End_holds {call : CallF} (hc : SaysAll Try.prog call) (n : Nat) : Holds Try.prog 42 (ref01_Reader_End_fn call n) := by
  intro args h r h2 e
  unfold ref01_Reader_End_fn at e
  split at e
  · exact ref01_Reader_End_ok hc e
  · cases e

noncomputable def ref17_whole (_ : CallF) (_ : Nat) (t0 : Int) (h : AHeap) : R :=
  lett (decide (t0 > 1125899906842624)) fun (t4 : Bool) =>
  ifB t4
  (
    some (.ret (.int .i64 (-1)), h))
  (
    lett (IntKind.i64.wrap t0) fun (t6 : Int) =>
    some (.ret (.int .i64 t6), h))
set_option maxHeartbeats 4000000 in
set_option maxRecDepth 20000 in
theorem ref17_whole_ok {call : CallF} (_ : SaysAll Try.prog call) {n : Nat} {t0 : Int} {h : AHeap} {rR : ARes} {hR : AHeap} (hF : ref17_whole call n t0 h = some (rR, hR)) : Says Try.prog 39 [.int .u64 t0] h rR hR := by
  unfold ref17_whole at hF
  refine says_of (fn := Try.f39) Try.func39 (c := codeOf Try.f39) (by kernel_rfl) (by kernel_rfl) (fun w0 m0 => ?_)
  refine W.weaken (l' := [(0, .int .u64 t0)]) (Fr.c Fr.n) ?_
  refine W.s (fun K1 n1 e1 q1 p1 => ?_)
  refine W.r ?_
  refine WL.a (some 2) (.int .i64 0) h ?_
  refine WL.n ?_
  refine Go.weaken (l' := [(0, .int .u64 t0)]) (Fr.c Fr.n) ?_
  refine n1 ?_
  refine W.s (fun K2 n2 e2 q2 p2 => ?_)
  refine W.s (fun K3 n3 e3 q3 p3 => ?_)
  refine W.r ?_
  refine WL.a (some 3) (.int .u64 t0) h ?_
  replace hF := lett_some hF; obtain ⟨t4, e4, hF⟩ := hF
  refine WL.val (d := (some 4)) (v := .bool t4) (h' := h) (by kernel_rfl) (by kernel_rfl) (val_of AV.bool e4 (by kernel_rfl)) ?_
  refine WL.n ?_
  refine Go.weaken (l' := [(0, .int .u64 t0), (4, .bool t4)]) (Fr.c (Fr.c Fr.n)) ?_
  refine n3 ?_
  cases t4 with
  | true =>
    replace hF := ifB_t hF
    refine W.t ?_
    refine W.s (fun K5 n5 e5 q5 p5 => ?_)
    refine W.r ?_
    refine WL.a (some 2) (.int .i64 (-1)) h ?_
    refine WL.n ?_
    refine Go.weaken (l' := [(2, .int .i64 (-1))]) (Fr.c Fr.n) ?_
    refine n5 ?_
    refine W.ret (by kernel_rfl) ?_
    refine q2 ?_
    obtain ⟨hF, hF2⟩ := ret_inj hF; subst hF; subst hF2
    exact leave_of (rs := [.tmp 2]) (vs := [.int .i64 (-1)]) (by kernel_rfl) (res_tmp (by kernel_rfl) res_nil) (by kernel_rfl)
  | false =>
    replace hF := ifB_f hF
    refine W.f ?_
    refine W.skip (by kernel_rfl) ?_
    refine n2 ?_
    refine W.s (fun K6 n6 e6 q6 p6 => ?_)
    refine W.r ?_
    refine WL.a (some 5) (.int .u64 t0) h ?_
    replace hF := lett_some hF; obtain ⟨t6, e7, hF⟩ := hF
    refine WL.val (d := (some 6)) (v := .int .i64 t6) (h' := h) (by kernel_rfl) (by kernel_rfl) (val_of (AV.int .i64) e7 (by kernel_rfl)) ?_
    refine WL.a (some 2) (.int .i64 t6) h ?_
    refine WL.n ?_
    refine Go.weaken (l' := [(2, .int .i64 t6)]) (Fr.c Fr.n) ?_
    refine n6 ?_
    refine W.ret (by kernel_rfl) ?_
    obtain ⟨hF, hF2⟩ := ret_inj hF; subst hF; subst hF2
    exact leave_of (rs := [.tmp 2]) (vs := [.int .i64 t6]) (by kernel_rfl) (res_tmp (by kernel_rfl) res_nil) (by kernel_rfl)
noncomputable def ref17_whole_fn (call : CallF) (n : Nat) : FnT := fun args h => match args with
  | [x0] => obind (avInt .u64 x0) fun t0 => ref17_whole call n t0 h
  | _ => none
set_option maxRecDepth 100000 in
theorem ref17_whole_fn_eq (call : CallF) (n : Nat) (t0 : Int) (h : AHeap) : ref17_whole_fn call n [.int .u64 t0] h = ref17_whole call n t0 h :=
  (Eq.trans (obind_eq (fun t0 => ref17_whole call n t0 h) (avInt_int .u64 t0)) rfl)
theorem ref17_whole_holds {call : CallF} (hc : SaysAll Try.prog call) (n : Nat) : Holds Try.prog 39 (ref17_whole_fn call n) := by
  intro args h r h2 e
  unfold ref17_whole_fn at e
  split at e
  · replace e := obind_some e; obtain ⟨t0, c0, e⟩ := e; have c0 := avInt_some c0; subst c0
    exact ref17_whole_ok hc e
  · cases e

noncomputable def ref17_Read_L1b (call : CallF) (v16 : AV) (h_15 : AHeap) (k23 : AHeap → R) (self : Int → AHeap → R) (t8 : Int) (h_233 : AHeap) : R :=
  lett (decide (t8 < 15)) fun (t22 : Bool) =>
  ifB t22
  (
    callN (call 38 [v16, .int .i64 8] h_233) fun r27 h_239 =>
    obind (avInt .u64 r27) fun t27 =>
    callN (call 39 [.int .u64 t27] h_239) fun r28 h_242 =>
    obind (avInt .i64 r28) fun t28 =>
    obind (idxA 15 1 (newP h_15) t8) fun t29 =>
    obind (stRow h_242 1 [.int .i64 t28] t29) fun h_246 =>
    lett (IntKind.i64.wrap (t8 + 1)) fun (t24 : Int) =>
    self t24 h_246)
  (
    k23 h_233)
noncomputable def ref17_Read_L1 (call : CallF) (v16 : AV) (h_15 : AHeap) (k23 : AHeap → R) : Nat → Int → AHeap → R := iterR (fun _ _ => none) (ref17_Read_L1b call v16 h_15 k23)
theorem ref17_Read_L1_s (call : CallF) (v16 : AV) (h_15 : AHeap) (k23 : AHeap → R) (m : Nat) : ref17_Read_L1 call v16 h_15 k23 (m + 1) = ref17_Read_L1b call v16 h_15 k23 (ref17_Read_L1 call v16 h_15 k23 m) := rfl
noncomputable def ref17_Read_L0b (call : CallF) (v16 : AV) (h_5 : AHeap) (t97 : Int) (k156 : AHeap → R) (self : Int → AHeap → R) (t10 : Int) (h_195 : AHeap) : R :=
  lett (decide (t10 < t97)) fun (t100 : Bool) =>
  lett (fun (t104 : Bool) (h_199 : AHeap) =>
    ifB t104
    (
      lett (newH h_199 42 [.int .i64 0, .str 0 0]) fun h_205 =>
      callN (call 38 [v16, .int .i64 8] h_205) fun r108 h_208 =>
      obind (avInt .u64 r108) fun t108 =>
      callN (call 39 [.int .u64 t108] h_208) fun r109 h_211 =>
      obind (avInt .i64 r109) fun t109 =>
      obind (stRow h_211 1 [.int .i64 t109] (AV.ptr (AHeap.next h_199) 0)) fun h_214 =>
      callN (call 41 [v16, .int .i64 3500] h_214) fun r112 h_217 =>
      obind (avStr r112) fun t112 =>
      obind (stRow h_217 1 [strA t112] (AV.ptr (AHeap.next h_199) 1)) fun h_220 =>
      obind (ldCell h_220 (AV.ptr (AHeap.next h_5) 9)) fun v115 =>
      obind (ldRow h_220 2 (newP h_199)) fun t116 =>
      outK (bldSl Try.prog h_220 26 1 [(0, .agg t116)]) fun v117 h_224 =>
      outK (opAppend Try.prog h_224 26 26 v115 v117) fun v118 h_226 =>
      obind (stRow h_226 1 (AV.cells v118) (AV.ptr (AHeap.next h_5) 9)) fun h_228 =>
      lett (IntKind.i64.wrap (t10 + 1)) fun (t106 : Int) =>
      self t106 h_228)
    (
      k156 h_199)) fun j104 =>
  ifB t100
  (
    lett (decide (t10 < 4)) fun (t103 : Bool) =>
    j104 t103 h_195)
  (
    j104 false h_195)
noncomputable def ref17_Read_L0 (call : CallF) (v16 : AV) (h_5 : AHeap) (t97 : Int) (k156 : AHeap → R) : Nat → Int → AHeap → R := iterR (fun _ _ => none) (ref17_Read_L0b call v16 h_5 t97 k156)
theorem ref17_Read_L0_s (call : CallF) (v16 : AV) (h_5 : AHeap) (t97 : Int) (k156 : AHeap → R) (m : Nat) : ref17_Read_L0 call v16 h_5 t97 k156 (m + 1) = ref17_Read_L0b call v16 h_5 t97 k156 (ref17_Read_L0 call v16 h_5 t97 k156 m) := rfl
noncomputable def ref17_Read (call : CallF) (n : Nat) (t0 : Bytes) (h : AHeap) : R :=
  lett (newH h 30 [.int .u8 0, .int .i64 0, .int .i64 0, .int .i64 0, .int .i64 0, .int .i64 0, .int .i64 0, .int .i64 0, .bool false, .nsl, .int .i64 0, .int .i64 0, .str 0 0, .int .i64 0, .int .i64 0, .int .i64 0, .int .i64 0, .int .i64 0, .int .i64 0, .int .u8 0, .int .i64 0, .int .i64 0]) fun h_2 =>
  outK (opBox h_2 85 (some (.agg ([strA t0, .int .i64 0, .int .i64 0, .int .i64 0] : List AV)))) fun v16 h_5 =>
  lett (newH h_5 30 [.int .u8 0, .int .i64 0, .int .i64 0, .int .i64 0, .int .i64 0, .int .i64 0, .int .i64 0, .int .i64 0, .bool false, .nsl, .int .i64 0, .int .i64 0, .str 0 0, .int .i64 0, .int .i64 0, .int .i64 0, .int .i64 0, .int .i64 0, .int .i64 0, .int .u8 0, .int .i64 0, .int .i64 0]) fun h_8 =>
  callN (call 38 [v16, .int .i64 1] h_8) fun r18 h_11 =>
  obind (avInt .u64 r18) fun t18 =>
  lett (IntKind.u8.wrap t18) fun (t19 : Int) =>
  obind (stRow h_11 1 [.int .u8 t19] (AV.ptr (AHeap.next h_5) 0)) fun h_15 =>
  lett (newH h_15 87 [.int .i64 0, .int .i64 0, .int .i64 0, .int .i64 0, .int .i64 0, .int .i64 0, .int .i64 0, .int .i64 0, .int .i64 0, .int .i64 0, .int .i64 0, .int .i64 0, .int .i64 0, .int .i64 0, .int .i64 0]) fun h_18 =>
  lett (fun  (h_24 : AHeap) =>
    obind (idxA 15 1 (newP h_15) 0) fun t30 =>
    obind (ldCell h_24 t30) fun v31 =>
    obind (avInt .i64 v31) fun t31 =>
    obind (idxA 15 1 (newP h_15) 1) fun t32 =>
    obind (ldCell h_24 t32) fun v33 =>
    obind (avInt .i64 v33) fun t33 =>
    obind (idxA 15 1 (newP h_15) 2) fun t34 =>
    obind (ldCell h_24 t34) fun v35 =>
    obind (avInt .i64 v35) fun t35 =>
    obind (idxA 15 1 (newP h_15) 3) fun t36 =>
    obind (ldCell h_24 t36) fun v37 =>
    obind (avInt .i64 v37) fun t37 =>
    obind (idxA 15 1 (newP h_15) 4) fun t38 =>
    obind (ldCell h_24 t38) fun v39 =>
    obind (avInt .i64 v39) fun t39 =>
    obind (idxA 15 1 (newP h_15) 5) fun t40 =>
    obind (ldCell h_24 t40) fun v41 =>
    obind (avInt .i64 v41) fun t41 =>
    obind (idxA 15 1 (newP h_15) 6) fun t42 =>
    obind (ldCell h_24 t42) fun v43 =>
    obind (avInt .i64 v43) fun t43 =>
    obind (idxA 15 1 (newP h_15) 7) fun t44 =>
    obind (ldCell h_24 t44) fun v45 =>
    obind (avInt .i64 v45) fun t45 =>
    obind (stRow h_24 1 [.int .i64 t31] (AV.ptr (AHeap.next h_5) 1)) fun h_50 =>
    chk (reLoad Try.prog h_50 3 t44 (.int .i64 t45) && (reLoad Try.prog h_50 3 t42 (.int .i64 t43) && (reLoad Try.prog h_50 3 t40 (.int .i64 t41) && (reLoad Try.prog h_50 3 t38 (.int .i64 t39) && (reLoad Try.prog h_50 3 t36 (.int .i64 t37) && (reLoad Try.prog h_50 3 t34 (.int .i64 t35) && (reLoad Try.prog h_50 3 t32 (.int .i64 t33) && (true && true)))))))) <|
    obind (stRow h_50 1 [.int .i64 t33] (AV.ptr (AHeap.next h_5) 2)) fun h_53 =>
    chk (reLoad Try.prog h_53 3 t44 (.int .i64 t45) && (reLoad Try.prog h_53 3 t42 (.int .i64 t43) && (reLoad Try.prog h_53 3 t40 (.int .i64 t41) && (reLoad Try.prog h_53 3 t38 (.int .i64 t39) && (reLoad Try.prog h_53 3 t36 (.int .i64 t37) && (reLoad Try.prog h_53 3 t34 (.int .i64 t35) && (true && (true && true)))))))) <|
    obind (stRow h_53 1 [.int .i64 t35] (AV.ptr (AHeap.next h_5) 3)) fun h_56 =>
    chk (reLoad Try.prog h_56 3 t44 (.int .i64 t45) && (reLoad Try.prog h_56 3 t42 (.int .i64 t43) && (reLoad Try.prog h_56 3 t40 (.int .i64 t41) && (reLoad Try.prog h_56 3 t38 (.int .i64 t39) && (reLoad Try.prog h_56 3 t36 (.int .i64 t37) && (true && (true && (true && true)))))))) <|
    obind (stRow h_56 1 [.int .i64 t37] (AV.ptr (AHeap.next h_5) 4)) fun h_59 =>
    chk (reLoad Try.prog h_59 3 t44 (.int .i64 t45) && (reLoad Try.prog h_59 3 t42 (.int .i64 t43) && (reLoad Try.prog h_59 3 t40 (.int .i64 t41) && (reLoad Try.prog h_59 3 t38 (.int .i64 t39) && (true && (true && (true && (true && true)))))))) <|
    obind (stRow h_59 1 [.int .i64 t39] (AV.ptr (AHeap.next h_5) 5)) fun h_62 =>
    chk (reLoad Try.prog h_62 3 t44 (.int .i64 t45) && (reLoad Try.prog h_62 3 t42 (.int .i64 t43) && (reLoad Try.prog h_62 3 t40 (.int .i64 t41) && (true && (true && (true && (true && (true && true)))))))) <|
    obind (stRow h_62 1 [.int .i64 t41] (AV.ptr (AHeap.next h_5) 6)) fun h_65 =>
    chk (reLoad Try.prog h_65 3 t44 (.int .i64 t45) && (reLoad Try.prog h_65 3 t42 (.int .i64 t43) && (true && (true && (true && (true && (true && (true && true)))))))) <|
    obind (stRow h_65 1 [.int .i64 t43] (AV.ptr (AHeap.next h_5) 7)) fun h_68 =>
    chk (reLoad Try.prog h_68 3 t44 (.int .i64 t45) && (true && (true && (true && (true && (true && (true && (true && true)))))))) <|
    obind (stRow h_68 1 [.int .i64 t45] (AV.ptr (AHeap.next h_5) 10)) fun h_71 =>
    obind (idxA 15 1 (newP h_15) 8) fun t54 =>
    obind (ldCell h_71 t54) fun v55 =>
    obind (avInt .i64 v55) fun t55 =>
    obind (idxA 15 1 (newP h_15) 9) fun t56 =>
    obind (ldCell h_71 t56) fun v57 =>
    obind (avInt .i64 v57) fun t57 =>
    obind (idxA 15 1 (newP h_15) 10) fun t58 =>
    obind (ldCell h_71 t58) fun v59 =>
    obind (avInt .i64 v59) fun t59 =>
    obind (idxA 15 1 (newP h_15) 11) fun t60 =>
    obind (ldCell h_71 t60) fun v61 =>
    obind (avInt .i64 v61) fun t61 =>
    obind (idxA 15 1 (newP h_15) 12) fun t62 =>
    obind (ldCell h_71 t62) fun v63 =>
    obind (avInt .i64 v63) fun t63 =>
    obind (idxA 15 1 (newP h_15) 13) fun t64 =>
    obind (ldCell h_71 t64) fun v65 =>
    obind (avInt .i64 v65) fun t65 =>
    obind (idxA 15 1 (newP h_15) 14) fun t66 =>
    obind (ldCell h_71 t66) fun v67 =>
    obind (avInt .i64 v67) fun t67 =>
    obind (stRow h_71 1 [.int .i64 t55] (AV.ptr (AHeap.next h_5) 11)) fun h_95 =>
    chk (reLoad Try.prog h_95 3 t66 (.int .i64 t67) && (reLoad Try.prog h_95 3 t64 (.int .i64 t65) && (reLoad Try.prog h_95 3 t62 (.int .i64 t63) && (reLoad Try.prog h_95 3 t60 (.int .i64 t61) && (reLoad Try.prog h_95 3 t58 (.int .i64 t59) && (reLoad Try.prog h_95 3 t56 (.int .i64 t57) && (true && true))))))) <|
    obind (stRow h_95 1 [.int .i64 t57] (AV.ptr (AHeap.next h_5) 13)) fun h_98 =>
    chk (reLoad Try.prog h_98 3 t66 (.int .i64 t67) && (reLoad Try.prog h_98 3 t64 (.int .i64 t65) && (reLoad Try.prog h_98 3 t62 (.int .i64 t63) && (reLoad Try.prog h_98 3 t60 (.int .i64 t61) && (reLoad Try.prog h_98 3 t58 (.int .i64 t59) && (true && (true && true))))))) <|
    obind (stRow h_98 1 [.int .i64 t59] (AV.ptr (AHeap.next h_5) 14)) fun h_101 =>
    chk (reLoad Try.prog h_101 3 t66 (.int .i64 t67) && (reLoad Try.prog h_101 3 t64 (.int .i64 t65) && (reLoad Try.prog h_101 3 t62 (.int .i64 t63) && (reLoad Try.prog h_101 3 t60 (.int .i64 t61) && (true && (true && (true && true))))))) <|
    obind (stRow h_101 1 [.int .i64 t61] (AV.ptr (AHeap.next h_5) 15)) fun h_104 =>
    chk (reLoad Try.prog h_104 3 t66 (.int .i64 t67) && (reLoad Try.prog h_104 3 t64 (.int .i64 t65) && (reLoad Try.prog h_104 3 t62 (.int .i64 t63) && (true && (true && (true && (true && true))))))) <|
    obind (stRow h_104 1 [.int .i64 t63] (AV.ptr (AHeap.next h_5) 16)) fun h_107 =>
    chk (reLoad Try.prog h_107 3 t66 (.int .i64 t67) && (reLoad Try.prog h_107 3 t64 (.int .i64 t65) && (true && (true && (true && (true && (true && true))))))) <|
    obind (stRow h_107 1 [.int .i64 t65] (AV.ptr (AHeap.next h_5) 17)) fun h_110 =>
    chk (reLoad Try.prog h_110 3 t66 (.int .i64 t67) && (true && (true && (true && (true && (true && (true && true))))))) <|
    obind (stRow h_110 1 [.int .i64 t67] (AV.ptr (AHeap.next h_5) 18)) fun h_113 =>
    callN (call 40 [v16] h_113) fun r78 h_116 =>
    obind (avBool r78) fun t78 =>
    obind (stRow h_116 1 [.bool t78] (AV.ptr (AHeap.next h_5) 8)) fun h_119 =>
    callN (call 38 [v16, .int .i64 1] h_119) fun r81 h_122 =>
    obind (avInt .u64 r81) fun t81 =>
    lett (IntKind.u8.wrap t81) fun (t82 : Int) =>
    obind (stRow h_122 1 [.int .u8 t82] (AV.ptr (AHeap.next h_5) 19)) fun h_126 =>
    callN (call 38 [v16, .int .i64 4] h_126) fun r85 h_129 =>
    obind (avInt .u64 r85) fun t85 =>
    lett (IntKind.i64.wrap t85) fun (t86 : Int) =>
    obind (stRow h_129 1 [.int .i64 t86] (AV.ptr (AHeap.next h_5) 20)) fun h_133 =>
    callN (call 38 [v16, .int .i64 1] h_133) fun r89 h_136 =>
    obind (avInt .u64 r89) fun t89 =>
    lett (IntKind.i64.wrap t89) fun (t90 : Int) =>
    obind (stRow h_136 1 [.int .i64 t90] (AV.ptr (AHeap.next h_5) 21)) fun h_140 =>
    callN (call 41 [v16, .int .i64 3500] h_140) fun r93 h_143 =>
    obind (avStr r93) fun t93 =>
    obind (stRow h_143 1 [strA t93] (AV.ptr (AHeap.next h_5) 12)) fun h_146 =>
    callN (call 38 [v16, .int .i64 1] h_146) fun r96 h_149 =>
    obind (avInt .u64 r96) fun t96 =>
    lett (IntKind.i64.wrap t96) fun (t97 : Int) =>
    lett (fun  (h_157 : AHeap) =>
      callN (call 42 [v16] h_157) fun r122 h_159 =>
      obind (extT 0 r122) fun v123 =>
      obind (avInt .i64 v123) fun t123 =>
      obind (extT 1 r122) fun v124 =>
      obind (avInt .i64 v124) fun t124 =>
      lett ((t123 : Int) != 0) fun (t126 : Bool) =>
      ifB t126
      (
        obind (stRow h_159 22 ([.int .u8 0, .int .i64 0, .int .i64 0, .int .i64 0, .int .i64 0, .int .i64 0, .int .i64 0, .int .i64 0, .bool false, .nsl, .int .i64 0, .int .i64 0, .str 0 0, .int .i64 0, .int .i64 0, .int .i64 0, .int .i64 0, .int .i64 0, .int .i64 0, .int .u8 0, .int .i64 0, .int .i64 0] : List AV) (newP h)) fun h_169 =>
        obind (ldRow h_169 22 (newP h)) fun w2 =>
        some (.ret (.tup [.agg w2, .int .i64 t123, .int .i64 t124]), h_169))
      (
        lett (decide (t97 > 4)) fun (t131 : Bool) =>
        lett (fun (t136 : Bool) (h_175 : AHeap) =>
          ifB t136
          (
            obind (stRow h_175 22 ([.int .u8 0, .int .i64 0, .int .i64 0, .int .i64 0, .int .i64 0, .int .i64 0, .int .i64 0, .int .i64 0, .bool false, .nsl, .int .i64 0, .int .i64 0, .str 0 0, .int .i64 0, .int .i64 0, .int .i64 0, .int .i64 0, .int .i64 0, .int .i64 0, .int .u8 0, .int .i64 0, .int .i64 0] : List AV) (newP h)) fun h_179 =>
            obind (ldRow h_179 22 (newP h)) fun w2_182 =>
            some (.ret (.tup [.agg w2_182, .int .i64 7, .int .i64 0]), h_179))
          (
            obind (ldRow h_175 22 (newP h_5)) fun t138 =>
            obind (stRow h_175 22 t138 (newP h)) fun h_185 =>
            obind (ldRow h_185 22 (newP h)) fun w2_188 =>
            some (.ret (.tup [.agg w2_188, .int .i64 0, .int .i64 0]), h_185))) fun j136 =>
        ifB t131
        (
          j136 true h_159)
        (
          obind (ldRow h_159 22 (newP h_5)) fun t133 =>
          callN (call 16 [.agg t133] h_159) fun r134 h_190 =>
          obind (avInt .i64 r134) fun t134 =>
          lett ((t134 : Int) != 0) fun (t135 : Bool) =>
          j136 t135 h_190))) fun k156 =>
    ref17_Read_L0 call v16 h_5 t97 k156 n 0 h_149) fun k23 =>
  ref17_Read_L1 call v16 h_15 k23 n 0 h_18
set_option maxHeartbeats 4000000 in
set_option maxRecDepth 20000 in
theorem ref17_Read_ok {call : CallF} (hc : SaysAll Try.prog call) {n : Nat} {t0 : Bytes} {h : AHeap} {rR : ARes} {hR : AHeap} (hF : ref17_Read call n t0 h = some (rR, hR)) : Says Try.prog 19 [strA t0] h rR hR := by
  unfold ref17_Read at hF
  refine says_of (fn := Try.f19) Try.func19 (c := codeOf Try.f19) (by kernel_rfl) (by kernel_rfl) (fun w0 m0 => ?_)
  refine W.weaken (l' := [(0, strA t0)]) (Fr.c Fr.n) ?_
  refine W.s (fun K1 n1 e1 q1 p1 => ?_)
  refine W.r ?_
  replace hF := lett_some hF; obtain ⟨h_2, e3, hF⟩ := hF
  refine WL.val (d := (some 2)) (v := (newP h)) (h' := h_2) (by kernel_rfl) (by kernel_rfl) (val_ofH e3 (by kernel_rfl)) ?_
  refine WL.a (some 3) (.int .i64 0) h_2 ?_
  refine WL.a (some 4) (.int .i64 0) h_2 ?_
  refine WL.n ?_
  refine Go.weaken (l' := [(0, strA t0), (2, (newP h))]) (Fr.c (Fr.c Fr.n)) ?_
  refine n1 ?_
  refine W.s (fun K4 n4 e4 q4 p4 => ?_)
  refine W.r ?_
  refine WL.a (some 14) (strA t0) h_2 ?_
  refine WL.a (some 15) (.agg ([strA t0, .int .i64 0, .int .i64 0, .int .i64 0] : List AV)) h_2 ?_
  replace hF := outK_some hF; obtain ⟨v16, h_5, e6, hF⟩ := hF
  refine WL.b (some 16) v16 h_5 e6 ?_
  refine WL.a (some 5) v16 h_5 ?_
  refine WL.n ?_
  refine Go.weaken (l' := [(2, (newP h)), (5, v16)]) (Fr.c (Fr.c Fr.n)) ?_
  refine n4 ?_
  refine W.s (fun K7 n7 e7 q7 p7 => ?_)
  refine W.r ?_
  replace hF := lett_some hF; obtain ⟨h_8, e9, hF⟩ := hF
  refine WL.val (d := (some 6)) (v := (newP h_5)) (h' := h_8) (by kernel_rfl) (by kernel_rfl) (val_ofH e9 (by kernel_rfl)) ?_
  refine WL.n ?_
  refine Go.weaken (l' := [(2, (newP h)), (5, v16), (6, (newP h_5))]) (Fr.c (Fr.c (Fr.c Fr.n))) ?_
  refine n7 ?_
  refine W.s (fun K10 n10 e10 q10 p10 => ?_)
  refine W.r ?_
  refine WL.a (some 17) v16 h_8 ?_
  replace hF := callN_some hF; obtain ⟨r18, h_11, e12, hF⟩ := hF
  replace hF := obind_some hF; obtain ⟨t18, c13, hF⟩ := hF
  have c13 := avInt_some c13
  subst c13
  refine WL.c (hc.ok w0) (some 18) e12 ?_
  replace hF := lett_some hF; obtain ⟨t19, e14, hF⟩ := hF
  refine WL.val (d := (some 19)) (v := .int .u8 t19) (h' := h_11) (by kernel_rfl) (by kernel_rfl) (val_of (AV.int .u8) e14 (by kernel_rfl)) ?_
  refine WL.a (some 20) (AV.ptr (AHeap.next h_5) 0) h_11 ?_
  replace hF := obind_some hF; obtain ⟨h_15, e16, hF⟩ := hF
  refine WL.e h_15 (store_row (P := Try.prog) (h := h_11) (t := 5) (v := (.int .u8 t19)) (by kernel_rfl) (by kernel_rfl) e16) ?_
  refine WL.n ?_
  refine Go.weaken (l' := [(2, (newP h)), (5, v16), (6, (newP h_5))]) (Fr.c (Fr.c (Fr.c Fr.n))) ?_
  refine n10 ?_
  refine W.s (fun K17 n17 e17 q17 p17 => ?_)
  refine W.r ?_
  replace hF := lett_some hF; obtain ⟨h_18, e19, hF⟩ := hF
  refine WL.val (d := (some 7)) (v := (newP h_15)) (h' := h_18) (by kernel_rfl) (by kernel_rfl) (val_ofH e19 (by kernel_rfl)) ?_
  refine WL.n ?_
  refine Go.weaken (l' := [(2, (newP h)), (5, v16), (6, (newP h_5)), (7, (newP h_15))]) (Fr.c (Fr.c (Fr.c (Fr.c Fr.n)))) ?_
  refine n17 ?_
  refine W.s (fun K20 n20 e20 q20 p20 => ?_)
  refine W.s (fun K21 n21 e21 q21 p21 => ?_)
  refine W.r ?_
  refine WL.a (some 8) (.int .i64 0) h_18 ?_
  refine WL.n ?_
  refine Go.weaken (l' := [(2, (newP h)), (5, v16), (6, (newP h_5)), (7, (newP h_15)), (8, .int .i64 0)]) (Fr.c (Fr.c (Fr.c (Fr.c (Fr.c Fr.n))))) ?_
  refine n21 ?_
  replace hF := lett_some hF; obtain ⟨k23, e23, hF⟩ := hF
  have J23 : ∀  (h_24 : AHeap), k23 h_24 = some (rR, hR) → Go w0 m0 (Func.ntmps Try.f19) (K20 .normal) [(2, (newP h)), (5, v16), (6, (newP h_5)), (7, (newP h_15))] [] h_24 := by
    intro  h_24 hF
    rw [e23] at hF
    refine n20 ?_
    refine W.s (fun K25 n25 e25 q25 p25 => ?_)
    refine W.draw (by kernel_rfl) (hc.ok w0) (plan := [0, 1, 2, 3, 4, 5, 6, 7, 8, 9, 10, 11, 12, 13, 14, 15, 16, 17, 18, 19, 20, 21, 22, 23, 24, 25, 26, 27, 28, 29, 30, 31]) (by kernel_rfl) (by kernel_rfl) (by kernel_rfl) ?_
    replace hF := obind_some hF; obtain ⟨t30, e26, hF⟩ := hF
    refine WD.b 0 (some 30) t30 h_24 (index_arr (P := Try.prog) (h := h_24) (t := 87) (e' := 3) (k := .i64) (by kernel_rfl) (by kernel_rfl) (by kernel_rfl) e26) ?_
    replace hF := obind_some hF; obtain ⟨v31, e27, hF⟩ := hF
    replace hF := obind_some hF; obtain ⟨t31, c28, hF⟩ := hF
    have c28 := avInt_some c28
    subst c28
    refine WD.b 1 (some 31) (.int .i64 t31) h_24 (load_cell (P := Try.prog) (h := h_24) (t := 3) (by kernel_rfl) e27) ?_
    replace hF := obind_some hF; obtain ⟨t32, e29, hF⟩ := hF
    refine WD.b 0 (some 32) t32 h_24 (index_arr (P := Try.prog) (h := h_24) (t := 87) (e' := 3) (k := .i64) (by kernel_rfl) (by kernel_rfl) (by kernel_rfl) e29) ?_
    replace hF := obind_some hF; obtain ⟨v33, e30, hF⟩ := hF
    replace hF := obind_some hF; obtain ⟨t33, c31, hF⟩ := hF
    have c31 := avInt_some c31
    subst c31
    refine WD.b 1 (some 33) (.int .i64 t33) h_24 (load_cell (P := Try.prog) (h := h_24) (t := 3) (by kernel_rfl) e30) ?_
    replace hF := obind_some hF; obtain ⟨t34, e32, hF⟩ := hF
    refine WD.b 0 (some 34) t34 h_24 (index_arr (P := Try.prog) (h := h_24) (t := 87) (e' := 3) (k := .i64) (by kernel_rfl) (by kernel_rfl) (by kernel_rfl) e32) ?_
    replace hF := obind_some hF; obtain ⟨v35, e33, hF⟩ := hF
    replace hF := obind_some hF; obtain ⟨t35, c34, hF⟩ := hF
    have c34 := avInt_some c34
    subst c34
    refine WD.b 1 (some 35) (.int .i64 t35) h_24 (load_cell (P := Try.prog) (h := h_24) (t := 3) (by kernel_rfl) e33) ?_
    replace hF := obind_some hF; obtain ⟨t36, e35, hF⟩ := hF
    refine WD.b 0 (some 36) t36 h_24 (index_arr (P := Try.prog) (h := h_24) (t := 87) (e' := 3) (k := .i64) (by kernel_rfl) (by kernel_rfl) (by kernel_rfl) e35) ?_
    replace hF := obind_some hF; obtain ⟨v37, e36, hF⟩ := hF
    replace hF := obind_some hF; obtain ⟨t37, c37, hF⟩ := hF
    have c37 := avInt_some c37
    subst c37
    refine WD.b 1 (some 37) (.int .i64 t37) h_24 (load_cell (P := Try.prog) (h := h_24) (t := 3) (by kernel_rfl) e36) ?_
    replace hF := obind_some hF; obtain ⟨t38, e38, hF⟩ := hF
    refine WD.b 0 (some 38) t38 h_24 (index_arr (P := Try.prog) (h := h_24) (t := 87) (e' := 3) (k := .i64) (by kernel_rfl) (by kernel_rfl) (by kernel_rfl) e38) ?_
    replace hF := obind_some hF; obtain ⟨v39, e39, hF⟩ := hF
    replace hF := obind_some hF; obtain ⟨t39, c40, hF⟩ := hF
    have c40 := avInt_some c40
    subst c40
    refine WD.b 1 (some 39) (.int .i64 t39) h_24 (load_cell (P := Try.prog) (h := h_24) (t := 3) (by kernel_rfl) e39) ?_
    replace hF := obind_some hF; obtain ⟨t40, e41, hF⟩ := hF
    refine WD.b 0 (some 40) t40 h_24 (index_arr (P := Try.prog) (h := h_24) (t := 87) (e' := 3) (k := .i64) (by kernel_rfl) (by kernel_rfl) (by kernel_rfl) e41) ?_
    replace hF := obind_some hF; obtain ⟨v41, e42, hF⟩ := hF
    replace hF := obind_some hF; obtain ⟨t41, c43, hF⟩ := hF
    have c43 := avInt_some c43
    subst c43
    refine WD.b 1 (some 41) (.int .i64 t41) h_24 (load_cell (P := Try.prog) (h := h_24) (t := 3) (by kernel_rfl) e42) ?_
    replace hF := obind_some hF; obtain ⟨t42, e44, hF⟩ := hF
    refine WD.b 0 (some 42) t42 h_24 (index_arr (P := Try.prog) (h := h_24) (t := 87) (e' := 3) (k := .i64) (by kernel_rfl) (by kernel_rfl) (by kernel_rfl) e44) ?_
    replace hF := obind_some hF; obtain ⟨v43, e45, hF⟩ := hF
    replace hF := obind_some hF; obtain ⟨t43, c46, hF⟩ := hF
    have c46 := avInt_some c46
    subst c46
    refine WD.b 1 (some 43) (.int .i64 t43) h_24 (load_cell (P := Try.prog) (h := h_24) (t := 3) (by kernel_rfl) e45) ?_
    replace hF := obind_some hF; obtain ⟨t44, e47, hF⟩ := hF
    refine WD.b 0 (some 44) t44 h_24 (index_arr (P := Try.prog) (h := h_24) (t := 87) (e' := 3) (k := .i64) (by kernel_rfl) (by kernel_rfl) (by kernel_rfl) e47) ?_
    replace hF := obind_some hF; obtain ⟨v45, e48, hF⟩ := hF
    replace hF := obind_some hF; obtain ⟨t45, c49, hF⟩ := hF
    have c49 := avInt_some c49
    subst c49
    refine WD.b 1 (some 45) (.int .i64 t45) h_24 (load_cell (P := Try.prog) (h := h_24) (t := 3) (by kernel_rfl) e48) ?_
    refine WD.a 0 (some 46) (AV.ptr (AHeap.next h_5) 1) h_24 ?_
    replace hF := obind_some hF; obtain ⟨h_50, e51, hF⟩ := hF
    replace hF := chk_some hF; obtain ⟨k52, hF⟩ := hF
    refine WD.eff (h' := h_50) (by kernel_rfl) (by kernel_rfl) (Eq.trans (by kernel_rfl) (store_row (P := Try.prog) (h := h_24) (t := 3) (v := (.int .i64 t31)) (by kernel_rfl) (by kernel_rfl) e51)) (k := 2) (by kernel_rfl) (fun _ => (Eq.trans (by kernel_rfl) k52)) (by decide) ?_
    refine WD.a 0 (some 47) (AV.ptr (AHeap.next h_5) 2) h_50 ?_
    replace hF := obind_some hF; obtain ⟨h_53, e54, hF⟩ := hF
    replace hF := chk_some hF; obtain ⟨k55, hF⟩ := hF
    refine WD.eff (h' := h_53) (by kernel_rfl) (by kernel_rfl) (Eq.trans (by kernel_rfl) (store_row (P := Try.prog) (h := h_50) (t := 3) (v := (.int .i64 t33)) (by kernel_rfl) (by kernel_rfl) e54)) (k := 2) (by kernel_rfl) (fun _ => (Eq.trans (by kernel_rfl) k55)) (by decide) ?_
    refine WD.a 0 (some 48) (AV.ptr (AHeap.next h_5) 3) h_53 ?_
    replace hF := obind_some hF; obtain ⟨h_56, e57, hF⟩ := hF
    replace hF := chk_some hF; obtain ⟨k58, hF⟩ := hF
    refine WD.eff (h' := h_56) (by kernel_rfl) (by kernel_rfl) (Eq.trans (by kernel_rfl) (store_row (P := Try.prog) (h := h_53) (t := 3) (v := (.int .i64 t35)) (by kernel_rfl) (by kernel_rfl) e57)) (k := 2) (by kernel_rfl) (fun _ => (Eq.trans (by kernel_rfl) k58)) (by decide) ?_
    refine WD.a 0 (some 49) (AV.ptr (AHeap.next h_5) 4) h_56 ?_
    replace hF := obind_some hF; obtain ⟨h_59, e60, hF⟩ := hF
    replace hF := chk_some hF; obtain ⟨k61, hF⟩ := hF
    refine WD.eff (h' := h_59) (by kernel_rfl) (by kernel_rfl) (Eq.trans (by kernel_rfl) (store_row (P := Try.prog) (h := h_56) (t := 3) (v := (.int .i64 t37)) (by kernel_rfl) (by kernel_rfl) e60)) (k := 2) (by kernel_rfl) (fun _ => (Eq.trans (by kernel_rfl) k61)) (by decide) ?_
    refine WD.a 0 (some 50) (AV.ptr (AHeap.next h_5) 5) h_59 ?_
    replace hF := obind_some hF; obtain ⟨h_62, e63, hF⟩ := hF
    replace hF := chk_some hF; obtain ⟨k64, hF⟩ := hF
    refine WD.eff (h' := h_62) (by kernel_rfl) (by kernel_rfl) (Eq.trans (by kernel_rfl) (store_row (P := Try.prog) (h := h_59) (t := 3) (v := (.int .i64 t39)) (by kernel_rfl) (by kernel_rfl) e63)) (k := 2) (by kernel_rfl) (fun _ => (Eq.trans (by kernel_rfl) k64)) (by decide) ?_
    refine WD.a 0 (some 51) (AV.ptr (AHeap.next h_5) 6) h_62 ?_
    replace hF := obind_some hF; obtain ⟨h_65, e66, hF⟩ := hF
    replace hF := chk_some hF; obtain ⟨k67, hF⟩ := hF
    refine WD.eff (h' := h_65) (by kernel_rfl) (by kernel_rfl) (Eq.trans (by kernel_rfl) (store_row (P := Try.prog) (h := h_62) (t := 3) (v := (.int .i64 t41)) (by kernel_rfl) (by kernel_rfl) e66)) (k := 2) (by kernel_rfl) (fun _ => (Eq.trans (by kernel_rfl) k67)) (by decide) ?_
    refine WD.a 0 (some 52) (AV.ptr (AHeap.next h_5) 7) h_65 ?_
    replace hF := obind_some hF; obtain ⟨h_68, e69, hF⟩ := hF
    replace hF := chk_some hF; obtain ⟨k70, hF⟩ := hF
    refine WD.eff (h' := h_68) (by kernel_rfl) (by kernel_rfl) (Eq.trans (by kernel_rfl) (store_row (P := Try.prog) (h := h_65) (t := 3) (v := (.int .i64 t43)) (by kernel_rfl) (by kernel_rfl) e69)) (k := 2) (by kernel_rfl) (fun _ => (Eq.trans (by kernel_rfl) k70)) (by decide) ?_
    refine WD.a 0 (some 53) (AV.ptr (AHeap.next h_5) 10) h_68 ?_
    replace hF := obind_some hF; obtain ⟨h_71, e72, hF⟩ := hF
    refine WD.eff (h' := h_71) (by kernel_rfl) (by kernel_rfl) (Eq.trans (by kernel_rfl) (store_row (P := Try.prog) (h := h_68) (t := 3) (v := (.int .i64 t45)) (by kernel_rfl) (by kernel_rfl) e72)) (k := 2) (by kernel_rfl) (fun _ => (by kernel_rfl)) (by decide) ?_
    refine WD.nil ?_
    refine Go.weaken (l' := [(2, (newP h)), (5, v16), (6, (newP h_5)), (7, (newP h_15))]) (Fr.c (Fr.c (Fr.c (Fr.c Fr.n)))) ?_
    refine n25 ?_
    refine W.s (fun K73 n73 e73 q73 p73 => ?_)
    refine W.draw (by kernel_rfl) (hc.ok w0) (plan := [0, 1, 2, 3, 4, 5, 6, 7, 8, 9, 10, 11, 12, 13, 14, 15, 16, 17, 18, 19, 20, 21, 22, 23, 24, 25, 26, 27, 28, 29]) (by kernel_rfl) (by kernel_rfl) (by kernel_rfl) ?_
    replace hF := obind_some hF; obtain ⟨t54, e74, hF⟩ := hF
    refine WD.b 0 (some 54) t54 h_71 (index_arr (P := Try.prog) (h := h_71) (t := 87) (e' := 3) (k := .i64) (by kernel_rfl) (by kernel_rfl) (by kernel_rfl) e74) ?_
    replace hF := obind_some hF; obtain ⟨v55, e75, hF⟩ := hF
    replace hF := obind_some hF; obtain ⟨t55, c76, hF⟩ := hF
    have c76 := avInt_some c76
    subst c76
    refine WD.b 1 (some 55) (.int .i64 t55) h_71 (load_cell (P := Try.prog) (h := h_71) (t := 3) (by kernel_rfl) e75) ?_
    replace hF := obind_some hF; obtain ⟨t56, e77, hF⟩ := hF
    refine WD.b 0 (some 56) t56 h_71 (index_arr (P := Try.prog) (h := h_71) (t := 87) (e' := 3) (k := .i64) (by kernel_rfl) (by kernel_rfl) (by kernel_rfl) e77) ?_
    replace hF := obind_some hF; obtain ⟨v57, e78, hF⟩ := hF
    replace hF := obind_some hF; obtain ⟨t57, c79, hF⟩ := hF
    have c79 := avInt_some c79
    subst c79
    refine WD.b 1 (some 57) (.int .i64 t57) h_71 (load_cell (P := Try.prog) (h := h_71) (t := 3) (by kernel_rfl) e78) ?_
    replace hF := obind_some hF; obtain ⟨t58, e80, hF⟩ := hF
    refine WD.b 0 (some 58) t58 h_71 (index_arr (P := Try.prog) (h := h_71) (t := 87) (e' := 3) (k := .i64) (by kernel_rfl) (by kernel_rfl) (by kernel_rfl) e80) ?_
    replace hF := obind_some hF; obtain ⟨v59, e81, hF⟩ := hF
    replace hF := obind_some hF; obtain ⟨t59, c82, hF⟩ := hF
    have c82 := avInt_some c82
    subst c82
    refine WD.b 1 (some 59) (.int .i64 t59) h_71 (load_cell (P := Try.prog) (h := h_71) (t := 3) (by kernel_rfl) e81) ?_
    replace hF := obind_some hF; obtain ⟨t60, e83, hF⟩ := hF
    refine WD.b 0 (some 60) t60 h_71 (index_arr (P := Try.prog) (h := h_71) (t := 87) (e' := 3) (k := .i64) (by kernel_rfl) (by kernel_rfl) (by kernel_rfl) e83) ?_
    replace hF := obind_some hF; obtain ⟨v61, e84, hF⟩ := hF
    replace hF := obind_some hF; obtain ⟨t61, c85, hF⟩ := hF
    have c85 := avInt_some c85
    subst c85
    refine WD.b 1 (some 61) (.int .i64 t61) h_71 (load_cell (P := Try.prog) (h := h_71) (t := 3) (by kernel_rfl) e84) ?_
    replace hF := obind_some hF; obtain ⟨t62, e86, hF⟩ := hF
    refine WD.b 0 (some 62) t62 h_71 (index_arr (P := Try.prog) (h := h_71) (t := 87) (e' := 3) (k := .i64) (by kernel_rfl) (by kernel_rfl) (by kernel_rfl) e86) ?_
    replace hF := obind_some hF; obtain ⟨v63, e87, hF⟩ := hF
    replace hF := obind_some hF; obtain ⟨t63, c88, hF⟩ := hF
    have c88 := avInt_some c88
    subst c88
    refine WD.b 1 (some 63) (.int .i64 t63) h_71 (load_cell (P := Try.prog) (h := h_71) (t := 3) (by kernel_rfl) e87) ?_
    replace hF := obind_some hF; obtain ⟨t64, e89, hF⟩ := hF
    refine WD.b 0 (some 64) t64 h_71 (index_arr (P := Try.prog) (h := h_71) (t := 87) (e' := 3) (k := .i64) (by kernel_rfl) (by kernel_rfl) (by kernel_rfl) e89) ?_
    replace hF := obind_some hF; obtain ⟨v65, e90, hF⟩ := hF
    replace hF := obind_some hF; obtain ⟨t65, c91, hF⟩ := hF
    have c91 := avInt_some c91
    subst c91
    refine WD.b 1 (some 65) (.int .i64 t65) h_71 (load_cell (P := Try.prog) (h := h_71) (t := 3) (by kernel_rfl) e90) ?_
    replace hF := obind_some hF; obtain ⟨t66, e92, hF⟩ := hF
    refine WD.b 0 (some 66) t66 h_71 (index_arr (P := Try.prog) (h := h_71) (t := 87) (e' := 3) (k := .i64) (by kernel_rfl) (by kernel_rfl) (by kernel_rfl) e92) ?_
    replace hF := obind_some hF; obtain ⟨v67, e93, hF⟩ := hF
    replace hF := obind_some hF; obtain ⟨t67, c94, hF⟩ := hF
    have c94 := avInt_some c94
    subst c94
    refine WD.b 1 (some 67) (.int .i64 t67) h_71 (load_cell (P := Try.prog) (h := h_71) (t := 3) (by kernel_rfl) e93) ?_
    refine WD.a 0 (some 68) (AV.ptr (AHeap.next h_5) 11) h_71 ?_
    replace hF := obind_some hF; obtain ⟨h_95, e96, hF⟩ := hF
    replace hF := chk_some hF; obtain ⟨k97, hF⟩ := hF
    refine WD.eff (h' := h_95) (by kernel_rfl) (by kernel_rfl) (Eq.trans (by kernel_rfl) (store_row (P := Try.prog) (h := h_71) (t := 3) (v := (.int .i64 t55)) (by kernel_rfl) (by kernel_rfl) e96)) (k := 2) (by kernel_rfl) (fun _ => (Eq.trans (by kernel_rfl) k97)) (by decide) ?_
    refine WD.a 0 (some 69) (AV.ptr (AHeap.next h_5) 13) h_95 ?_
    replace hF := obind_some hF; obtain ⟨h_98, e99, hF⟩ := hF
    replace hF := chk_some hF; obtain ⟨k100, hF⟩ := hF
    refine WD.eff (h' := h_98) (by kernel_rfl) (by kernel_rfl) (Eq.trans (by kernel_rfl) (store_row (P := Try.prog) (h := h_95) (t := 3) (v := (.int .i64 t57)) (by kernel_rfl) (by kernel_rfl) e99)) (k := 2) (by kernel_rfl) (fun _ => (Eq.trans (by kernel_rfl) k100)) (by decide) ?_
    refine WD.a 0 (some 70) (AV.ptr (AHeap.next h_5) 14) h_98 ?_
    refine WD.a 0 (some 71) (AV.ptr (AHeap.next h_5) 14) h_98 ?_
    replace hF := obind_some hF; obtain ⟨h_101, e102, hF⟩ := hF
    replace hF := chk_some hF; obtain ⟨k103, hF⟩ := hF
    refine WD.eff (h' := h_101) (by kernel_rfl) (by kernel_rfl) (Eq.trans (by kernel_rfl) (store_row (P := Try.prog) (h := h_98) (t := 3) (v := (.int .i64 t59)) (by kernel_rfl) (by kernel_rfl) e102)) (k := 2) (by kernel_rfl) (fun _ => (Eq.trans (by kernel_rfl) k103)) (by decide) ?_
    refine WD.a 0 (some 72) (AV.ptr (AHeap.next h_5) 14) h_101 ?_
    refine WD.a 0 (some 73) (AV.ptr (AHeap.next h_5) 15) h_101 ?_
    replace hF := obind_some hF; obtain ⟨h_104, e105, hF⟩ := hF
    replace hF := chk_some hF; obtain ⟨k106, hF⟩ := hF
    refine WD.eff (h' := h_104) (by kernel_rfl) (by kernel_rfl) (Eq.trans (by kernel_rfl) (store_row (P := Try.prog) (h := h_101) (t := 3) (v := (.int .i64 t61)) (by kernel_rfl) (by kernel_rfl) e105)) (k := 2) (by kernel_rfl) (fun _ => (Eq.trans (by kernel_rfl) k106)) (by decide) ?_
    refine WD.a 0 (some 74) (AV.ptr (AHeap.next h_5) 16) h_104 ?_
    replace hF := obind_some hF; obtain ⟨h_107, e108, hF⟩ := hF
    replace hF := chk_some hF; obtain ⟨k109, hF⟩ := hF
    refine WD.eff (h' := h_107) (by kernel_rfl) (by kernel_rfl) (Eq.trans (by kernel_rfl) (store_row (P := Try.prog) (h := h_104) (t := 3) (v := (.int .i64 t63)) (by kernel_rfl) (by kernel_rfl) e108)) (k := 2) (by kernel_rfl) (fun _ => (Eq.trans (by kernel_rfl) k109)) (by decide) ?_
    refine WD.a 0 (some 75) (AV.ptr (AHeap.next h_5) 17) h_107 ?_
    replace hF := obind_some hF; obtain ⟨h_110, e111, hF⟩ := hF
    replace hF := chk_some hF; obtain ⟨k112, hF⟩ := hF
    refine WD.eff (h' := h_110) (by kernel_rfl) (by kernel_rfl) (Eq.trans (by kernel_rfl) (store_row (P := Try.prog) (h := h_107) (t := 3) (v := (.int .i64 t65)) (by kernel_rfl) (by kernel_rfl) e111)) (k := 2) (by kernel_rfl) (fun _ => (Eq.trans (by kernel_rfl) k112)) (by decide) ?_
    refine WD.a 0 (some 76) (AV.ptr (AHeap.next h_5) 18) h_110 ?_
    replace hF := obind_some hF; obtain ⟨h_113, e114, hF⟩ := hF
    refine WD.eff (h' := h_113) (by kernel_rfl) (by kernel_rfl) (Eq.trans (by kernel_rfl) (store_row (P := Try.prog) (h := h_110) (t := 3) (v := (.int .i64 t67)) (by kernel_rfl) (by kernel_rfl) e114)) (k := 2) (by kernel_rfl) (fun _ => (by kernel_rfl)) (by decide) ?_
    refine WD.nil ?_
    refine Go.weaken (l' := [(2, (newP h)), (5, v16), (6, (newP h_5))]) (Fr.c (Fr.c (Fr.c Fr.n))) ?_
    refine n73 ?_
    refine W.s (fun K115 n115 e115 q115 p115 => ?_)
    refine W.r ?_
    refine WL.a (some 77) v16 h_113 ?_
    replace hF := callN_some hF; obtain ⟨r78, h_116, e117, hF⟩ := hF
    replace hF := obind_some hF; obtain ⟨t78, c118, hF⟩ := hF
    have c118 := avBool_some c118
    subst c118
    refine WL.c (hc.ok w0) (some 78) e117 ?_
    refine WL.a (some 79) (AV.ptr (AHeap.next h_5) 8) h_116 ?_
    replace hF := obind_some hF; obtain ⟨h_119, e120, hF⟩ := hF
    refine WL.e h_119 (store_row (P := Try.prog) (h := h_116) (t := 4) (v := (.bool t78)) (by kernel_rfl) (by kernel_rfl) e120) ?_
    refine WL.n ?_
    refine Go.weaken (l' := [(2, (newP h)), (5, v16), (6, (newP h_5))]) (Fr.c (Fr.c (Fr.c Fr.n))) ?_
    refine n115 ?_
    refine W.s (fun K121 n121 e121 q121 p121 => ?_)
    refine W.r ?_
    refine WL.a (some 80) v16 h_119 ?_
    replace hF := callN_some hF; obtain ⟨r81, h_122, e123, hF⟩ := hF
    replace hF := obind_some hF; obtain ⟨t81, c124, hF⟩ := hF
    have c124 := avInt_some c124
    subst c124
    refine WL.c (hc.ok w0) (some 81) e123 ?_
    replace hF := lett_some hF; obtain ⟨t82, e125, hF⟩ := hF
    refine WL.val (d := (some 82)) (v := .int .u8 t82) (h' := h_122) (by kernel_rfl) (by kernel_rfl) (val_of (AV.int .u8) e125 (by kernel_rfl)) ?_
    refine WL.a (some 83) (AV.ptr (AHeap.next h_5) 19) h_122 ?_
    replace hF := obind_some hF; obtain ⟨h_126, e127, hF⟩ := hF
    refine WL.e h_126 (store_row (P := Try.prog) (h := h_122) (t := 5) (v := (.int .u8 t82)) (by kernel_rfl) (by kernel_rfl) e127) ?_
    refine WL.n ?_
    refine Go.weaken (l' := [(2, (newP h)), (5, v16), (6, (newP h_5))]) (Fr.c (Fr.c (Fr.c Fr.n))) ?_
    refine n121 ?_
    refine W.s (fun K128 n128 e128 q128 p128 => ?_)
    refine W.r ?_
    refine WL.a (some 84) v16 h_126 ?_
    replace hF := callN_some hF; obtain ⟨r85, h_129, e130, hF⟩ := hF
    replace hF := obind_some hF; obtain ⟨t85, c131, hF⟩ := hF
    have c131 := avInt_some c131
    subst c131
    refine WL.c (hc.ok w0) (some 85) e130 ?_
    replace hF := lett_some hF; obtain ⟨t86, e132, hF⟩ := hF
    refine WL.val (d := (some 86)) (v := .int .i64 t86) (h' := h_129) (by kernel_rfl) (by kernel_rfl) (val_of (AV.int .i64) e132 (by kernel_rfl)) ?_
    refine WL.a (some 87) (AV.ptr (AHeap.next h_5) 20) h_129 ?_
    replace hF := obind_some hF; obtain ⟨h_133, e134, hF⟩ := hF
    refine WL.e h_133 (store_row (P := Try.prog) (h := h_129) (t := 23) (v := (.int .i64 t86)) (by kernel_rfl) (by kernel_rfl) e134) ?_
    refine WL.n ?_
    refine Go.weaken (l' := [(2, (newP h)), (5, v16), (6, (newP h_5))]) (Fr.c (Fr.c (Fr.c Fr.n))) ?_
    refine n128 ?_
    refine W.s (fun K135 n135 e135 q135 p135 => ?_)
    refine W.r ?_
    refine WL.a (some 88) v16 h_133 ?_
    replace hF := callN_some hF; obtain ⟨r89, h_136, e137, hF⟩ := hF
    replace hF := obind_some hF; obtain ⟨t89, c138, hF⟩ := hF
    have c138 := avInt_some c138
    subst c138
    refine WL.c (hc.ok w0) (some 89) e137 ?_
    replace hF := lett_some hF; obtain ⟨t90, e139, hF⟩ := hF
    refine WL.val (d := (some 90)) (v := .int .i64 t90) (h' := h_136) (by kernel_rfl) (by kernel_rfl) (val_of (AV.int .i64) e139 (by kernel_rfl)) ?_
    refine WL.a (some 91) (AV.ptr (AHeap.next h_5) 21) h_136 ?_
    replace hF := obind_some hF; obtain ⟨h_140, e141, hF⟩ := hF
    refine WL.e h_140 (store_row (P := Try.prog) (h := h_136) (t := 3) (v := (.int .i64 t90)) (by kernel_rfl) (by kernel_rfl) e141) ?_
    refine WL.n ?_
    refine Go.weaken (l' := [(2, (newP h)), (5, v16), (6, (newP h_5))]) (Fr.c (Fr.c (Fr.c Fr.n))) ?_
    refine n135 ?_
    refine W.s (fun K142 n142 e142 q142 p142 => ?_)
    refine W.r ?_
    refine WL.a (some 92) v16 h_140 ?_
    replace hF := callN_some hF; obtain ⟨r93, h_143, e144, hF⟩ := hF
    replace hF := obind_some hF; obtain ⟨t93, c145, hF⟩ := hF
    have c145 := avStr_some c145
    subst c145
    refine WL.c (hc.ok w0) (some 93) e144 ?_
    refine WL.a (some 94) (AV.ptr (AHeap.next h_5) 12) h_143 ?_
    replace hF := obind_some hF; obtain ⟨h_146, e147, hF⟩ := hF
    refine WL.e h_146 (store_row (P := Try.prog) (h := h_143) (t := 9) (v := (strA t93)) (by kernel_rfl) (by kernel_rfl) e147) ?_
    refine WL.n ?_
    refine Go.weaken (l' := [(2, (newP h)), (5, v16), (6, (newP h_5))]) (Fr.c (Fr.c (Fr.c Fr.n))) ?_
    refine n142 ?_
    refine W.s (fun K148 n148 e148 q148 p148 => ?_)
    refine W.r ?_
    refine WL.a (some 95) v16 h_146 ?_
    replace hF := callN_some hF; obtain ⟨r96, h_149, e150, hF⟩ := hF
    replace hF := obind_some hF; obtain ⟨t96, c151, hF⟩ := hF
    have c151 := avInt_some c151
    subst c151
    refine WL.c (hc.ok w0) (some 96) e150 ?_
    replace hF := lett_some hF; obtain ⟨t97, e152, hF⟩ := hF
    refine WL.val (d := (some 97)) (v := .int .i64 t97) (h' := h_149) (by kernel_rfl) (by kernel_rfl) (val_of (AV.int .i64) e152 (by kernel_rfl)) ?_
    refine WL.a (some 9) (.int .i64 t97) h_149 ?_
    refine WL.n ?_
    refine Go.weaken (l' := [(2, (newP h)), (5, v16), (6, (newP h_5)), (9, .int .i64 t97)]) (Fr.c (Fr.c (Fr.c (Fr.c Fr.n)))) ?_
    refine n148 ?_
    refine W.s (fun K153 n153 e153 q153 p153 => ?_)
    refine W.s (fun K154 n154 e154 q154 p154 => ?_)
    refine W.r ?_
    refine WL.a (some 10) (.int .i64 0) h_149 ?_
    refine WL.n ?_
    refine Go.weaken (l' := [(2, (newP h)), (5, v16), (6, (newP h_5)), (9, .int .i64 t97), (10, .int .i64 0)]) (Fr.c (Fr.c (Fr.c (Fr.c (Fr.c Fr.n))))) ?_
    refine n154 ?_
    replace hF := lett_some hF; obtain ⟨k156, e156, hF⟩ := hF
    have J156 : ∀  (h_157 : AHeap), k156 h_157 = some (rR, hR) → Go w0 m0 (Func.ntmps Try.f19) (K153 .normal) [(2, (newP h)), (5, v16), (6, (newP h_5)), (9, .int .i64 t97)] [] h_157 := by
      intro  h_157 hF
      rw [e156] at hF
      refine n153 ?_
      refine W.s (fun K158 n158 e158 q158 p158 => ?_)
      refine W.r ?_
      refine WL.a (some 121) v16 h_157 ?_
      replace hF := callN_some hF; obtain ⟨r122, h_159, e160, hF⟩ := hF
      refine WL.c (hc.ok w0) (some 122) e160 ?_
      refine WL.a (some 120) r122 h_159 ?_
      replace hF := obind_some hF; obtain ⟨v123, e161, hF⟩ := hF
      replace hF := obind_some hF; obtain ⟨t123, c162, hF⟩ := hF
      have c162 := avInt_some c162
      subst c162
      refine WL.b (some 123) (.int .i64 t123) h_159 (extract_tup (h := h_159) e161) ?_
      replace hF := obind_some hF; obtain ⟨v124, e163, hF⟩ := hF
      replace hF := obind_some hF; obtain ⟨t124, c164, hF⟩ := hF
      have c164 := avInt_some c164
      subst c164
      refine WL.b (some 124) (.int .i64 t124) h_159 (extract_tup (h := h_159) e163) ?_
      refine WL.a (some 12) (.int .i64 t123) h_159 ?_
      refine WL.a (some 13) (.int .i64 t124) h_159 ?_
      refine WL.n ?_
      refine Go.weaken (l' := [(2, (newP h)), (6, (newP h_5)), (9, .int .i64 t97), (12, .int .i64 t123), (13, .int .i64 t124)]) (Fr.c (Fr.c (Fr.c (Fr.c (Fr.c Fr.n))))) ?_
      refine n158 ?_
      refine W.s (fun K165 n165 e165 q165 p165 => ?_)
      refine W.s (fun K166 n166 e166 q166 p166 => ?_)
      refine W.r ?_
      refine WL.a (some 125) (.int .i64 t123) h_159 ?_
      replace hF := lett_some hF; obtain ⟨t126, e167, hF⟩ := hF
      refine WL.val (d := (some 126)) (v := .bool t126) (h' := h_159) (by kernel_rfl) (by kernel_rfl) (val_of AV.bool e167 (by kernel_rfl)) ?_
      refine WL.n ?_
      refine Go.weaken (l' := [(2, (newP h)), (6, (newP h_5)), (9, .int .i64 t97), (12, .int .i64 t123), (13, .int .i64 t124), (126, .bool t126)]) (Fr.c (Fr.c (Fr.c (Fr.c (Fr.c (Fr.c Fr.n)))))) ?_
      refine n166 ?_
      cases t126 with
      | true =>
        replace hF := ifB_t hF
        refine W.t ?_
        refine W.s (fun K168 n168 e168 q168 p168 => ?_)
        refine W.r ?_
        refine WL.a (some 127) (.agg ([.int .u8 0, .int .i64 0, .int .i64 0, .int .i64 0, .int .i64 0, .int .i64 0, .int .i64 0, .int .i64 0, .bool false, .nsl, .int .i64 0, .int .i64 0, .str 0 0, .int .i64 0, .int .i64 0, .int .i64 0, .int .i64 0, .int .i64 0, .int .i64 0, .int .u8 0, .int .i64 0, .int .i64 0] : List AV)) h_159 ?_
        refine WL.a (some 128) (.int .i64 t123) h_159 ?_
        refine WL.a (some 129) (.int .i64 t124) h_159 ?_
        replace hF := obind_some hF; obtain ⟨h_169, e170, hF⟩ := hF
        refine WL.e h_169 (store_row (P := Try.prog) (h := h_159) (t := 30) (v := (.agg ([.int .u8 0, .int .i64 0, .int .i64 0, .int .i64 0, .int .i64 0, .int .i64 0, .int .i64 0, .int .i64 0, .bool false, .nsl, .int .i64 0, .int .i64 0, .str 0 0, .int .i64 0, .int .i64 0, .int .i64 0, .int .i64 0, .int .i64 0, .int .i64 0, .int .u8 0, .int .i64 0, .int .i64 0] : List AV))) (by kernel_rfl) (by kernel_rfl) e170) ?_
        refine WL.a (some 3) (.int .i64 t123) h_169 ?_
        refine WL.a (some 4) (.int .i64 t124) h_169 ?_
        refine WL.n ?_
        refine Go.weaken (l' := [(2, (newP h)), (3, .int .i64 t123), (4, .int .i64 t124)]) (Fr.c (Fr.c (Fr.c Fr.n))) ?_
        refine n168 ?_
        refine W.ret (by kernel_rfl) ?_
        refine q165 ?_
        replace hF := obind_some hF; obtain ⟨w2, e171, hF⟩ := hF
        obtain ⟨hF, hF2⟩ := ret_inj hF; subst hF; subst hF2
        exact leave_of (rs := [.cell 2 30, .tmp 3, .tmp 4]) (vs := [.agg w2, .int .i64 t123, .int .i64 t124]) (by kernel_rfl) (res_cell (by kernel_rfl) (load_row (P := Try.prog) (h := h_169) (t := 30) (by kernel_rfl) (by kernel_rfl) e171) (res_tmp (by kernel_rfl) (res_tmp (by kernel_rfl) res_nil))) (by kernel_rfl)
      | false =>
        replace hF := ifB_f hF
        refine W.f ?_
        refine W.skip (by kernel_rfl) ?_
        refine n165 ?_
        refine W.s (fun K172 n172 e172 q172 p172 => ?_)
        refine W.s (fun K173 n173 e173 q173 p173 => ?_)
        refine W.r ?_
        refine WL.a (some 130) (.int .i64 t97) h_159 ?_
        replace hF := lett_some hF; obtain ⟨t131, e174, hF⟩ := hF
        refine WL.val (d := (some 131)) (v := .bool t131) (h' := h_159) (by kernel_rfl) (by kernel_rfl) (val_of AV.bool e174 (by kernel_rfl)) ?_
        refine WL.a (some 132) (.bool t131) h_159 ?_
        replace hF := lett_some hF; obtain ⟨j136, e176, hF⟩ := hF
        have J177 : ∀ (t136 : Bool) (h_175 : AHeap), j136 t136 h_175 = some (rR, hR) → WL Try.prog w0 m0 (Func.ntmps Try.f19) (Code.ops (Code.p1 (Code.p1 (Code.p2 (Code.p2 (Code.p2 (Code.p2 (Code.p2 (Code.p2 (Code.p2 (Code.p2 (Code.p2 (Code.p2 (Code.p2 (Code.p2 (Code.p2 (Code.p2 (Code.p2 (Code.p2 (Code.p2 (codeOf Try.f19))))))))))))))))))))) 7 K173 [(2, (newP h)), (6, (newP h_5)), (136, .bool t136)] [] h_175 := by
          intro t136 h_175 hF
          rw [e176] at hF
          refine WL.n ?_
          refine Go.weaken (l' := [(2, (newP h)), (6, (newP h_5)), (136, .bool t136)]) (Fr.c (Fr.c (Fr.c Fr.n))) ?_
          refine n173 ?_
          cases t136 with
          | true =>
            replace hF := ifB_t hF
            refine W.t ?_
            refine W.s (fun K178 n178 e178 q178 p178 => ?_)
            refine W.r ?_
            refine WL.a (some 137) (.agg ([.int .u8 0, .int .i64 0, .int .i64 0, .int .i64 0, .int .i64 0, .int .i64 0, .int .i64 0, .int .i64 0, .bool false, .nsl, .int .i64 0, .int .i64 0, .str 0 0, .int .i64 0, .int .i64 0, .int .i64 0, .int .i64 0, .int .i64 0, .int .i64 0, .int .u8 0, .int .i64 0, .int .i64 0] : List AV)) h_175 ?_
            replace hF := obind_some hF; obtain ⟨h_179, e180, hF⟩ := hF
            refine WL.e h_179 (store_row (P := Try.prog) (h := h_175) (t := 30) (v := (.agg ([.int .u8 0, .int .i64 0, .int .i64 0, .int .i64 0, .int .i64 0, .int .i64 0, .int .i64 0, .int .i64 0, .bool false, .nsl, .int .i64 0, .int .i64 0, .str 0 0, .int .i64 0, .int .i64 0, .int .i64 0, .int .i64 0, .int .i64 0, .int .i64 0, .int .u8 0, .int .i64 0, .int .i64 0] : List AV))) (by kernel_rfl) (by kernel_rfl) e180) ?_
            refine WL.a (some 3) (.int .i64 7) h_179 ?_
            refine WL.a (some 4) (.int .i64 0) h_179 ?_
            refine WL.n ?_
            refine Go.weaken (l' := [(2, (newP h)), (3, .int .i64 7), (4, .int .i64 0)]) (Fr.c (Fr.c (Fr.c Fr.n))) ?_
            refine n178 ?_
            refine W.ret (by kernel_rfl) ?_
            refine q172 ?_
            replace hF := obind_some hF; obtain ⟨w2_182, e181, hF⟩ := hF
            obtain ⟨hF, hF2⟩ := ret_inj hF; subst hF; subst hF2
            exact leave_of (rs := [.cell 2 30, .tmp 3, .tmp 4]) (vs := [.agg w2_182, .int .i64 7, .int .i64 0]) (by kernel_rfl) (res_cell (by kernel_rfl) (load_row (P := Try.prog) (h := h_179) (t := 30) (by kernel_rfl) (by kernel_rfl) e181) (res_tmp (by kernel_rfl) (res_tmp (by kernel_rfl) res_nil))) (by kernel_rfl)
          | false =>
            replace hF := ifB_f hF
            refine W.f ?_
            refine W.skip (by kernel_rfl) ?_
            refine n172 ?_
            refine W.s (fun K183 n183 e183 q183 p183 => ?_)
            refine W.r ?_
            replace hF := obind_some hF; obtain ⟨t138, e184, hF⟩ := hF
            refine WL.b (some 138) (.agg t138) h_175 (load_row (P := Try.prog) (h := h_175) (t := 30) (by kernel_rfl) (by kernel_rfl) e184) ?_
            replace hF := obind_some hF; obtain ⟨h_185, e186, hF⟩ := hF
            refine WL.e h_185 (store_row (P := Try.prog) (h := h_175) (t := 30) (v := (.agg t138)) (by kernel_rfl) (by kernel_rfl) e186) ?_
            refine WL.a (some 3) (.int .i64 0) h_185 ?_
            refine WL.a (some 4) (.int .i64 0) h_185 ?_
            refine WL.n ?_
            refine Go.weaken (l' := [(2, (newP h)), (3, .int .i64 0), (4, .int .i64 0)]) (Fr.c (Fr.c (Fr.c Fr.n))) ?_
            refine n183 ?_
            refine W.ret (by kernel_rfl) ?_
            replace hF := obind_some hF; obtain ⟨w2_188, e187, hF⟩ := hF
            obtain ⟨hF, hF2⟩ := ret_inj hF; subst hF; subst hF2
            exact leave_of (rs := [.cell 2 30, .tmp 3, .tmp 4]) (vs := [.agg w2_188, .int .i64 0, .int .i64 0]) (by kernel_rfl) (res_cell (by kernel_rfl) (load_row (P := Try.prog) (h := h_185) (t := 30) (by kernel_rfl) (by kernel_rfl) e187) (res_tmp (by kernel_rfl) (res_tmp (by kernel_rfl) res_nil))) (by kernel_rfl)
        cases t131 with
        | true =>
          replace hF := ifB_t hF
          refine WL.o (some 133) ?_
          refine WL.o (some 134) ?_
          refine WL.o (some 135) ?_
          refine WL.a (some 136) (.bool true) h_159 ?_
          exact WL.weaken (Fr.c (Fr.c (Fr.c Fr.n))) (J177 _ _ hF)
        | false =>
          replace hF := ifB_f hF
          replace hF := obind_some hF; obtain ⟨t133, e189, hF⟩ := hF
          refine WL.b (some 133) (.agg t133) h_159 (load_row (P := Try.prog) (h := h_159) (t := 30) (by kernel_rfl) (by kernel_rfl) e189) ?_
          replace hF := callN_some hF; obtain ⟨r134, h_190, e191, hF⟩ := hF
          replace hF := obind_some hF; obtain ⟨t134, c192, hF⟩ := hF
          have c192 := avInt_some c192
          subst c192
          refine WL.c (hc.ok w0) (some 134) e191 ?_
          replace hF := lett_some hF; obtain ⟨t135, e193, hF⟩ := hF
          refine WL.val (d := (some 135)) (v := .bool t135) (h' := h_190) (by kernel_rfl) (by kernel_rfl) (val_of AV.bool e193 (by kernel_rfl)) ?_
          refine WL.a (some 136) (.bool t135) h_190 ?_
          exact WL.weaken (Fr.c (Fr.c (Fr.c Fr.n))) (J177 _ _ hF)
    refine W.blockK (by kernel_rfl) (fun K155 n155 s155 o155 q155 p155 => ?_)
    refine W.loopK (by kernel_rfl) (fun I194 K194 b194 n194 e194 q194 p194 => ?_)
    have L194 : ∀ (m : Nat) (t10 : Int) (h_195 : AHeap), ref17_Read_L0 call v16 h_5 t97 k156 m t10 h_195 = some (rR, hR) → Go w0 m0 (Func.ntmps Try.f19) I194 [(2, (newP h)), (5, v16), (6, (newP h_5)), (9, .int .i64 t97), (10, .int .i64 t10)] [] h_195 := by
      intro m
      induction m with
      | zero => intro t10 h_195 hF; cases hF
      | succ m ih194 =>
        intro t10 h_195 hF
        rw [ref17_Read_L0_s] at hF; unfold ref17_Read_L0b at hF
        refine b194 ?_
        refine W.s (fun K196 n196 e196 q196 p196 => ?_)
        refine W.s (fun K197 n197 e197 q197 p197 => ?_)
        refine W.r ?_
        refine WL.a (some 98) (.int .i64 t10) h_195 ?_
        refine WL.a (some 99) (.int .i64 t97) h_195 ?_
        replace hF := lett_some hF; obtain ⟨t100, e198, hF⟩ := hF
        refine WL.val (d := (some 100)) (v := .bool t100) (h' := h_195) (by kernel_rfl) (by kernel_rfl) (val_of AV.bool e198 (by kernel_rfl)) ?_
        refine WL.a (some 101) (.bool t100) h_195 ?_
        replace hF := lett_some hF; obtain ⟨j104, e200, hF⟩ := hF
        have J201 : ∀ (t104 : Bool) (h_199 : AHeap), j104 t104 h_199 = some (rR, hR) → WL Try.prog w0 m0 (Func.ntmps Try.f19) (Code.ops (Code.p1 (Code.p1 (Code.p1 (Code.p1 (Code.p2 (Code.p1 (Code.p2 (Code.p2 (Code.p2 (Code.p2 (Code.p2 (Code.p2 (Code.p2 (Code.p2 (Code.p2 (Code.p2 (Code.p2 (Code.p2 (Code.p2 (Code.p2 (codeOf Try.f19)))))))))))))))))))))) 7 K197 [(2, (newP h)), (5, v16), (6, (newP h_5)), (9, .int .i64 t97), (10, .int .i64 t10), (104, .bool t104)] [] h_199 := by
          intro t104 h_199 hF
          rw [e200] at hF
          refine WL.n ?_
          refine Go.weaken (l' := [(2, (newP h)), (5, v16), (6, (newP h_5)), (9, .int .i64 t97), (10, .int .i64 t10), (104, .bool t104)]) (Fr.c (Fr.c (Fr.c (Fr.c (Fr.c (Fr.c Fr.n)))))) ?_
          refine n197 ?_
          cases t104 with
          | true =>
            replace hF := ifB_t hF
            refine W.t ?_
            refine W.skip (by kernel_rfl) ?_
            refine n196 ?_
            refine W.s (fun K202 n202 e202 q202 p202 => ?_)
            refine W.blockK (by kernel_rfl) (fun K203 n203 s203 o203 q203 p203 => ?_)
            refine W.s (fun K204 n204 e204 q204 p204 => ?_)
            refine W.r ?_
            replace hF := lett_some hF; obtain ⟨h_205, e206, hF⟩ := hF
            refine WL.val (d := (some 11)) (v := (newP h_199)) (h' := h_205) (by kernel_rfl) (by kernel_rfl) (val_ofH e206 (by kernel_rfl)) ?_
            refine WL.n ?_
            refine Go.weaken (l' := [(2, (newP h)), (5, v16), (6, (newP h_5)), (9, .int .i64 t97), (10, .int .i64 t10), (11, (newP h_199))]) (Fr.c (Fr.c (Fr.c (Fr.c (Fr.c (Fr.c Fr.n)))))) ?_
            refine n204 ?_
            refine W.s (fun K207 n207 e207 q207 p207 => ?_)
            refine W.r ?_
            refine WL.a (some 107) v16 h_205 ?_
            replace hF := callN_some hF; obtain ⟨r108, h_208, e209, hF⟩ := hF
            replace hF := obind_some hF; obtain ⟨t108, c210, hF⟩ := hF
            have c210 := avInt_some c210
            subst c210
            refine WL.c (hc.ok w0) (some 108) e209 ?_
            replace hF := callN_some hF; obtain ⟨r109, h_211, e212, hF⟩ := hF
            replace hF := obind_some hF; obtain ⟨t109, c213, hF⟩ := hF
            have c213 := avInt_some c213
            subst c213
            refine WL.c (hc.ok w0) (some 109) e212 ?_
            refine WL.a (some 110) (AV.ptr (AHeap.next h_199) 0) h_211 ?_
            replace hF := obind_some hF; obtain ⟨h_214, e215, hF⟩ := hF
            refine WL.e h_214 (store_row (P := Try.prog) (h := h_211) (t := 3) (v := (.int .i64 t109)) (by kernel_rfl) (by kernel_rfl) e215) ?_
            refine WL.n ?_
            refine Go.weaken (l' := [(2, (newP h)), (5, v16), (6, (newP h_5)), (9, .int .i64 t97), (10, .int .i64 t10), (11, (newP h_199))]) (Fr.c (Fr.c (Fr.c (Fr.c (Fr.c (Fr.c Fr.n)))))) ?_
            refine n207 ?_
            refine W.s (fun K216 n216 e216 q216 p216 => ?_)
            refine W.r ?_
            refine WL.a (some 111) v16 h_214 ?_
            replace hF := callN_some hF; obtain ⟨r112, h_217, e218, hF⟩ := hF
            replace hF := obind_some hF; obtain ⟨t112, c219, hF⟩ := hF
            have c219 := avStr_some c219
            subst c219
            refine WL.c (hc.ok w0) (some 112) e218 ?_
            refine WL.a (some 113) (AV.ptr (AHeap.next h_199) 1) h_217 ?_
            replace hF := obind_some hF; obtain ⟨h_220, e221, hF⟩ := hF
            refine WL.e h_220 (store_row (P := Try.prog) (h := h_217) (t := 9) (v := (strA t112)) (by kernel_rfl) (by kernel_rfl) e221) ?_
            refine WL.n ?_
            refine Go.weaken (l' := [(2, (newP h)), (5, v16), (6, (newP h_5)), (9, .int .i64 t97), (10, .int .i64 t10), (11, (newP h_199))]) (Fr.c (Fr.c (Fr.c (Fr.c (Fr.c (Fr.c Fr.n)))))) ?_
            refine n216 ?_
            refine W.r ?_
            refine WL.a (some 114) (AV.ptr (AHeap.next h_5) 9) h_220 ?_
            replace hF := obind_some hF; obtain ⟨v115, e222, hF⟩ := hF
            refine WL.b (some 115) v115 h_220 (load_cell (P := Try.prog) (h := h_220) (t := 26) (by kernel_rfl) e222) ?_
            replace hF := obind_some hF; obtain ⟨t116, e223, hF⟩ := hF
            refine WL.b (some 116) (.agg t116) h_220 (load_row (P := Try.prog) (h := h_220) (t := 42) (by kernel_rfl) (by kernel_rfl) e223) ?_
            replace hF := outK_some hF; obtain ⟨v117, h_224, e225, hF⟩ := hF
            refine WL.b (some 117) v117 h_224 e225 ?_
            replace hF := outK_some hF; obtain ⟨v118, h_226, e227, hF⟩ := hF
            refine WL.b (some 118) v118 h_226 e227 ?_
            refine WL.a (some 119) (AV.ptr (AHeap.next h_5) 9) h_226 ?_
            replace hF := obind_some hF; obtain ⟨h_228, e229, hF⟩ := hF
            refine WL.e h_228 (store_row (P := Try.prog) (h := h_226) (t := 26) (v := v118) (by kernel_rfl) (by kernel_rfl) e229) ?_
            refine WL.n ?_
            refine Go.weaken (l' := [(2, (newP h)), (5, v16), (6, (newP h_5)), (9, .int .i64 t97), (10, .int .i64 t10)]) (Fr.c (Fr.c (Fr.c (Fr.c (Fr.c Fr.n))))) ?_
            refine n203 ?_
            refine n202 ?_
            refine W.r ?_
            refine WL.a (some 105) (.int .i64 t10) h_228 ?_
            replace hF := lett_some hF; obtain ⟨t106, e230, hF⟩ := hF
            refine WL.val (d := (some 106)) (v := .int .i64 t106) (h' := h_228) (by kernel_rfl) (by kernel_rfl) (val_of (AV.int .i64) e230 (by kernel_rfl)) ?_
            refine WL.a (some 10) (.int .i64 t106) h_228 ?_
            refine WL.n ?_
            refine Go.weaken (l' := [(2, (newP h)), (5, v16), (6, (newP h_5)), (9, .int .i64 t97), (10, .int .i64 t106)]) (Fr.c (Fr.c (Fr.c (Fr.c (Fr.c Fr.n))))) ?_
            refine n194 ?_
            exact Go.weaken (Fr.c (Fr.c (Fr.c (Fr.c (Fr.c Fr.n))))) (ih194 _ _ hF)
          | false =>
            replace hF := ifB_f hF
            refine W.f ?_
            refine W.exit (by kernel_rfl) ?_
            refine e196 ?_
            refine e194 ?_
            refine s155 (by kernel_rfl) ?_
            exact Go.weaken (Fr.c (Fr.c (Fr.c (Fr.c Fr.n)))) (J156 _ hF)
        cases t100 with
        | true =>
          replace hF := ifB_t hF
          refine WL.a (some 102) (.int .i64 t10) h_195 ?_
          replace hF := lett_some hF; obtain ⟨t103, e231, hF⟩ := hF
          refine WL.val (d := (some 103)) (v := .bool t103) (h' := h_195) (by kernel_rfl) (by kernel_rfl) (val_of AV.bool e231 (by kernel_rfl)) ?_
          refine WL.a (some 104) (.bool t103) h_195 ?_
          exact WL.weaken (Fr.c (Fr.c (Fr.c (Fr.c (Fr.c (Fr.c Fr.n)))))) (J201 _ _ hF)
        | false =>
          replace hF := ifB_f hF
          refine WL.o (some 102) ?_
          refine WL.o (some 103) ?_
          refine WL.a (some 104) (.bool false) h_195 ?_
          exact WL.weaken (Fr.c (Fr.c (Fr.c (Fr.c (Fr.c (Fr.c Fr.n)))))) (J201 _ _ hF)
    exact Go.weaken (Fr.c (Fr.c (Fr.c (Fr.c (Fr.c Fr.n))))) (L194 _ _ _ hF)
  refine W.blockK (by kernel_rfl) (fun K22 n22 s22 o22 q22 p22 => ?_)
  refine W.loopK (by kernel_rfl) (fun I232 K232 b232 n232 e232 q232 p232 => ?_)
  have L232 : ∀ (m : Nat) (t8 : Int) (h_233 : AHeap), ref17_Read_L1 call v16 h_15 k23 m t8 h_233 = some (rR, hR) → Go w0 m0 (Func.ntmps Try.f19) I232 [(2, (newP h)), (5, v16), (6, (newP h_5)), (7, (newP h_15)), (8, .int .i64 t8)] [] h_233 := by
    intro m
    induction m with
    | zero => intro t8 h_233 hF; cases hF
    | succ m ih232 =>
      intro t8 h_233 hF
      rw [ref17_Read_L1_s] at hF; unfold ref17_Read_L1b at hF
      refine b232 ?_
      refine W.s (fun K234 n234 e234 q234 p234 => ?_)
      refine W.s (fun K235 n235 e235 q235 p235 => ?_)
      refine W.r ?_
      refine WL.a (some 21) (.int .i64 t8) h_233 ?_
      replace hF := lett_some hF; obtain ⟨t22, e236, hF⟩ := hF
      refine WL.val (d := (some 22)) (v := .bool t22) (h' := h_233) (by kernel_rfl) (by kernel_rfl) (val_of AV.bool e236 (by kernel_rfl)) ?_
      refine WL.n ?_
      refine Go.weaken (l' := [(2, (newP h)), (5, v16), (6, (newP h_5)), (7, (newP h_15)), (8, .int .i64 t8), (22, .bool t22)]) (Fr.c (Fr.c (Fr.c (Fr.c (Fr.c (Fr.c Fr.n)))))) ?_
      refine n235 ?_
      cases t22 with
      | true =>
        replace hF := ifB_t hF
        refine W.t ?_
        refine W.skip (by kernel_rfl) ?_
        refine n234 ?_
        refine W.s (fun K237 n237 e237 q237 p237 => ?_)
        refine W.blockK (by kernel_rfl) (fun K238 n238 s238 o238 q238 p238 => ?_)
        refine W.r ?_
        refine WL.a (some 25) (.int .i64 t8) h_233 ?_
        refine WL.a (some 26) v16 h_233 ?_
        replace hF := callN_some hF; obtain ⟨r27, h_239, e240, hF⟩ := hF
        replace hF := obind_some hF; obtain ⟨t27, c241, hF⟩ := hF
        have c241 := avInt_some c241
        subst c241
        refine WL.c (hc.ok w0) (some 27) e240 ?_
        replace hF := callN_some hF; obtain ⟨r28, h_242, e243, hF⟩ := hF
        replace hF := obind_some hF; obtain ⟨t28, c244, hF⟩ := hF
        have c244 := avInt_some c244
        subst c244
        refine WL.c (hc.ok w0) (some 28) e243 ?_
        replace hF := obind_some hF; obtain ⟨t29, e245, hF⟩ := hF
        refine WL.b (some 29) t29 h_242 (index_arr (P := Try.prog) (h := h_242) (t := 87) (e' := 3) (k := .i64) (by kernel_rfl) (by kernel_rfl) (by kernel_rfl) e245) ?_
        replace hF := obind_some hF; obtain ⟨h_246, e247, hF⟩ := hF
        refine WL.e h_246 (store_row (P := Try.prog) (h := h_242) (t := 3) (v := (.int .i64 t28)) (by kernel_rfl) (by kernel_rfl) e247) ?_
        refine WL.n ?_
        refine Go.weaken (l' := [(2, (newP h)), (5, v16), (6, (newP h_5)), (7, (newP h_15)), (8, .int .i64 t8)]) (Fr.c (Fr.c (Fr.c (Fr.c (Fr.c Fr.n))))) ?_
        refine n238 ?_
        refine n237 ?_
        refine W.r ?_
        refine WL.a (some 23) (.int .i64 t8) h_246 ?_
        replace hF := lett_some hF; obtain ⟨t24, e248, hF⟩ := hF
        refine WL.val (d := (some 24)) (v := .int .i64 t24) (h' := h_246) (by kernel_rfl) (by kernel_rfl) (val_of (AV.int .i64) e248 (by kernel_rfl)) ?_
        refine WL.a (some 8) (.int .i64 t24) h_246 ?_
        refine WL.n ?_
        refine Go.weaken (l' := [(2, (newP h)), (5, v16), (6, (newP h_5)), (7, (newP h_15)), (8, .int .i64 t24)]) (Fr.c (Fr.c (Fr.c (Fr.c (Fr.c Fr.n))))) ?_
        refine n232 ?_
        exact Go.weaken (Fr.c (Fr.c (Fr.c (Fr.c (Fr.c Fr.n))))) (ih232 _ _ hF)
      | false =>
        replace hF := ifB_f hF
        refine W.f ?_
        refine W.exit (by kernel_rfl) ?_
        refine e234 ?_
        refine e232 ?_
        refine s22 (by kernel_rfl) ?_
        exact Go.weaken (Fr.c (Fr.c (Fr.c (Fr.c Fr.n)))) (J23 _ hF)
  exact Go.weaken (Fr.c (Fr.c (Fr.c (Fr.c (Fr.c Fr.n))))) (L232 _ _ _ hF)
noncomputable def ref17_Read_fn (call : CallF) (n : Nat) : FnT := fun args h => match args with
  | [x0] => obind (avStr x0) fun t0 => ref17_Read call n t0 h
  | _ => none
set_option maxRecDepth 100000 in
theorem ref17_Read_fn_eq (call : CallF) (n : Nat) (t0 : Bytes) (h : AHeap) : ref17_Read_fn call n [strA t0] h = ref17_Read call n t0 h :=
  (Eq.trans (obind_eq (fun t0 => ref17_Read call n t0 h) (avStr_str t0)) rfl)
theorem ref17_Read_holds {call : CallF} (hc : SaysAll Try.prog call) (n : Nat) : Holds Try.prog 19 (ref17_Read_fn call n) := by
  intro args h r h2 e
  unfold ref17_Read_fn at e
  split at e
  · replace e := obind_some e; obtain ⟨t0, c0, e⟩ := e; have c0 := avStr_some c0; subst c0
    exact ref17_Read_ok hc e
  · cases e

end Go.Proofs.Ytmibgiblejpgdaa
