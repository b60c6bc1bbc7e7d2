/- Plain functions in place of the program's, and that their calls come to what they say. -/
import Derived.Test.YtcbnpdfingfmgaaFrame
import Derived.Test.YtcbnpdfingfmgaaAbs54
namespace Go.Proofs.Ytcbnpdfingfmgaa
open Go.RowKit Abs

noncomputable def disk_Disk_Files_L0b (t0 : AV) (k12 : AV → AHeap → R) (self : AV → Int → AHeap → R) (t3_16 : AV) (t7 : Int) (h_17 : AHeap) : R :=
  lett (decide (t7 < 32)) fun (t8 : Bool) =>
  ifB t8
  (
    obind (nilC t0) fun t12 =>
    obind (fldP 0 t12) fun t13 =>
    obind (idxA 32 5 t13 t7) fun t14 =>
    obind (fldP 2 t14) fun t15 =>
    obind (fldP 0 t15) fun t16 =>
    obind (ldCell h_17 t16) fun v17 =>
    obind (avBool v17) fun t17 =>
    lett (fun (t3_33 : AV) (h_34 : AHeap) =>
      lett (IntKind.i64.wrap (t7 + 1)) fun (t22 : Int) =>
      self t3_33 t22 h_34) fun k32 =>
    ifB t17
    (
      outK (bldSl Try.prog h_17 34 1 [(0, .int .i64 t7)]) fun v20 h_36 =>
      outK (opAppend Try.prog h_36 34 34 t3_16 v20) fun v21 h_38 =>
      k32 v21 h_38)
    (
      k32 t3_16 h_17))
  (
    k12 t3_16 h_17)
noncomputable def disk_Disk_Files_L0 (t0 : AV) (k12 : AV → AHeap → R) : Nat → AV → Int → AHeap → R := iterR (fun _ _ _ => none) (disk_Disk_Files_L0b t0 k12)
theorem disk_Disk_Files_L0_s (t0 : AV) (k12 : AV → AHeap → R) (m : Nat) : disk_Disk_Files_L0 t0 k12 (m + 1) = disk_Disk_Files_L0b t0 k12 (disk_Disk_Files_L0 t0 k12 m) := rfl
noncomputable def disk_Disk_Files (_ : CallF) (n : Nat) (t0 : AV) (h : AHeap) : R :=
  outK (opBin Try.prog h .eql 23 true (some t0) (some AV.nilp)) fun v6 h_4 =>
  obind (avBool v6) fun t6 =>
  ifB t6
  (
    some (.ret (AV.nsl), h_4))
  (
    lett (fun (t3 : AV) (h_13 : AHeap) =>
      some (.ret (t3), h_13)) fun k12 =>
    disk_Disk_Files_L0 t0 k12 n AV.nsl 0 h_4)
set_option maxHeartbeats 4000000 in
set_option maxRecDepth 20000 in
theorem disk_Disk_Files_ok {call : CallF} (_ : SaysAll Try.prog call) {n : Nat} {t0 : AV} {h : AHeap} {rR : ARes} {hR : AHeap} (hF : disk_Disk_Files call n t0 h = some (rR, hR)) : Says Try.prog 20 [t0] h rR hR := by
  unfold disk_Disk_Files at hF
  refine sO Try.func20 fun w0 m0 => ?_
  refine wW [(0, t0)] ?_
  refine oG fun n1 => W.r ?_
  refine oA 2 AV.nsl ?_
  refine oV [(0, t0)] (n1 ?_)
  refine oH fun n2 q2 => ?_
  refine oG fun n3 => W.r ?_
  refine oA 5 t0 ?_
  replace hF := outK_some hF; obtain ⟨v6, h_4, e5, hF⟩ := hF
  replace hF := obind_some hF; obtain ⟨t6, c6, hF⟩ := hF
  have c6 := avBool_some c6
  subst c6
  refine WL.b (some 6) (.bool t6) h_4 e5 ?_
  refine oV [(0, t0), (6, .bool t6)] (n3 ?_)
  cases t6 with
  | true =>
    refine oT hF fun hF => ?_
    refine oG fun n7 => W.r ?_
    refine oA 2 AV.nsl ?_
    refine oV [(2, AV.nsl)] (n7 (oY (q2 ?_)))
    exact lZ hF [.tmp 2] [AV.nsl] (rT res_nil)
  | false =>
    refine oU hF fun hF => ?_
    refine oZ (n2 ?_)
    refine oG fun n8 => W.r ?_
    refine oA 3 AV.nsl ?_
    refine oV [(0, t0), (3, AV.nsl)] (n8 ?_)
    refine W.s (fun K9 n9 e9 q9 p9 => ?_)
    refine oG fun n10 => W.r ?_
    refine oA 7 (.int .i64 0) ?_
    refine oV [(0, t0), (3, AV.nsl), (7, .int .i64 0)] (n10 ?_)
    obtain ⟨k12, e12, hF⟩ := lett_some hF
    have J12 : ∀ (t3 : AV) (h_13 : AHeap), k12 t3 h_13 = some (rR, hR) → Go w0 m0 (Func.ntmps Try.f20) (K9 .normal) [(3, t3)] [] h_13 := by
      intro t3 h_13 hF
      rw [e12] at hF
      refine n9 ?_
      refine oG fun n14 => W.r ?_
      refine oA 23 t3 ?_
      refine oA 2 t3 ?_
      refine oV [(2, t3)] (n14 (oY ?_))
      exact lZ hF [.tmp 2] [t3] (rT res_nil)
    refine W.blockK (by kernel_rfl) (fun K11 n11 s11 o11 q11 p11 => ?_)
    refine W.loopK (by kernel_rfl) (fun I15 K15 b15 n15 e15 q15 p15 => ?_)
    have L15 : ∀ (m : Nat) (t3_16 : AV) (t7 : Int) (h_17 : AHeap), disk_Disk_Files_L0 t0 k12 m t3_16 t7 h_17 = some (rR, hR) → Go w0 m0 (Func.ntmps Try.f20) I15 [(0, t0), (3, t3_16), (7, .int .i64 t7)] [] h_17 := by
      intro m
      induction m with
      | zero => intro t3_16 t7 h_17 hF; cases hF
      | succ m ih15 =>
        intro t3_16 t7 h_17 hF
        rw [disk_Disk_Files_L0_s] at hF; unfold disk_Disk_Files_L0b at hF
        refine b15 ?_
        refine oG fun n18 => W.r ?_
        refine oB 8 hF fun t8 hF => ?_
        refine oV [(0, t0), (3, t3_16), (7, .int .i64 t7), (8, .bool t8)] (n18 ?_)
        refine W.s (fun K20 n20 e20 q20 p20 => ?_)
        cases t8 with
        | true =>
          refine oT hF fun hF => ?_
          refine oZ (n20 ?_)
          refine oG fun n21 => ?_
          refine W.blockK (by kernel_rfl) (fun K22 n22 s22 o22 q22 p22 => ?_)
          refine oG fun n23 => W.r ?_
          refine oA 9 (.int .i64 t7) ?_
          refine oA 4 (.int .i64 t7) ?_
          refine oV [(0, t0), (3, t3_16), (4, .int .i64 t7), (7, .int .i64 t7)] (n23 ?_)
          refine oG fun n24 => W.r ?_
          refine oA 10 t0 ?_
          refine oA 11 (.int .i64 t7) ?_
          refine oC0 12 hF fun t12 hF => ?_
          refine oF 13 57 0 hF fun t13 hF => ?_
          refine oQ 14 55 54 .i64 hF fun t14 hF => ?_
          refine oF 15 54 1 hF fun t15 hF => ?_
          refine oF 16 51 0 hF fun t16 hF => ?_
          refine oLb 17 4 hF fun t17 hF => ?_
          refine oV [(0, t0), (3, t3_16), (4, .int .i64 t7), (7, .int .i64 t7), (17, .bool t17)] (n24 ?_)
          obtain ⟨k32, e32, hF⟩ := lett_some hF
          have J32 : ∀ (t3_33 : AV) (h_34 : AHeap), k32 t3_33 h_34 = some (rR, hR) → Go w0 m0 (Func.ntmps Try.f20) (K22 .normal) [(0, t0), (3, t3_33), (7, .int .i64 t7)] [] h_34 := by
            intro t3_33 h_34 hF
            rw [e32] at hF
            refine n22 (n21 (W.r ?_))
            refine oI 22 .i64 hF fun t22 hF => ?_
            refine oA 7 (.int .i64 t22) ?_
            refine oV [(0, t0), (3, t3_33), (7, .int .i64 t22)] (n15 ?_)
            exact gW _ (ih15 _ _ _ hF)
          cases t17 with
          | true =>
            refine oT hF fun hF => ?_
            refine W.r ?_
            refine oA 18 t3_16 ?_
            refine oA 19 (.int .i64 t7) ?_
            refine oK 20 hF fun v20 h_36 hF => ?_
            refine oK 21 hF fun v21 h_38 hF => ?_
            refine oA 3 v21 ?_
            refine oV [(0, t0), (3, v21), (7, .int .i64 t7)] ?_
            exact gW _ (J32 _ _ hF)
          | false =>
            refine oU hF fun hF => ?_
            refine oZ ?_
            exact gW _ (J32 _ _ hF)
        | false =>
          refine oU hF fun hF => ?_
          refine W.exit (by kernel_rfl) ?_
          refine e20 (e15 ?_)
          refine s11 (by kernel_rfl) ?_
          exact gW _ (J12 _ _ hF)
    exact gW _ (L15 _ _ _ _ hF)
noncomputable def disk_Disk_Copy_L0b (call : CallF) (t0 : AV) (v17 : AV) (k22 : AHeap → R) (self : Int → AHeap → R) (t18 : Int) (h_26 : AHeap) : R :=
  lett (decide (t18 < 32)) fun (t19 : Bool) =>
  ifB t19
  (
    obind (nilC t0) fun t23 =>
    obind (fldP 0 t23) fun t24 =>
    obind (idxA 32 5 t24 t18) fun t25 =>
    obind (nilC t25) fun t29 =>
    obind (fldP 0 t29) fun t30 =>
    obind (nilC t25) fun t33 =>
    obind (fldP 2 t33) fun t34 =>
    obind (nilC t25) fun t37 =>
    obind (fldP 4 t37) fun t38 =>
    obind (ldCell h_26 t38) fun v39 =>
    obind (nilC v17) fun t42 =>
    obind (fldP 0 t42) fun t43 =>
    callN (call 33 [t30] h_26) fun r31 h_46 =>
    obind (avAgg r31) fun t31 =>
    chk (reLoad Try.prog h_46 52 t38 v39 && true) <|
    callN (call 33 [t34] h_46) fun r35 h_50 =>
    obind (avAgg r35) fun t35 =>
    chk (reLoad Try.prog h_50 52 t38 v39 && true) <|
    callN (call 34 [v39] h_50) fun r40 h_54 =>
    obind (bldS Try.prog 54 [(0, .agg t31), (1, .agg t35), (2, r40)]) fun t41 =>
    obind (idxA 32 5 t43 t18) fun t44 =>
    obind (stRow h_54 5 t41 t44) fun h_58 =>
    lett (IntKind.i64.wrap (t18 + 1)) fun (t45 : Int) =>
    self t45 h_58)
  (
    k22 h_26)
noncomputable def disk_Disk_Copy_L0 (call : CallF) (t0 : AV) (v17 : AV) (k22 : AHeap → R) : Nat → Int → AHeap → R := iterR (fun _ _ => none) (disk_Disk_Copy_L0b call t0 v17 k22)
theorem disk_Disk_Copy_L0_s (call : CallF) (t0 : AV) (v17 : AV) (k22 : AHeap → R) (m : Nat) : disk_Disk_Copy_L0 call t0 v17 k22 (m + 1) = disk_Disk_Copy_L0b call t0 v17 k22 (disk_Disk_Copy_L0 call t0 v17 k22 m) := rfl
noncomputable def disk_Disk_Copy (call : CallF) (n : Nat) (t0 : AV) (h : AHeap) : R :=
  outK (opBin Try.prog h .eql 23 true (some t0) (some AV.nilp)) fun v7 h_4 =>
  obind (avBool v7) fun t7 =>
  ifB t7
  (
    some (.ret (AV.nilp), h_4))
  (
    obind (nilC t0) fun t9 =>
    obind (fldP 160 t9) fun t10 =>
    obind (ldCell h_4 t10) fun v11 =>
    obind (avInt .i64 v11) fun t11 =>
    obind (nilC t0) fun t13 =>
    obind (fldP 161 t13) fun t14 =>
    obind (ldCell h_4 t14) fun v15 =>
    obind (avInt .i64 v15) fun t15 =>
    outK (opBox h_4 57 (some (.agg ([.bool false, .nsl, .bool false, .nsl, .nsl, .bool false, .nsl, .bool false, .nsl, .nsl, .bool false, .nsl, .bool false, .nsl, .nsl, .bool false, .nsl, .bool false, .nsl, .nsl, .bool false, .nsl, .bool false, .nsl, .nsl, .bool false, .nsl, .bool false, .nsl, .nsl, .bool false, .nsl, .bool false, .nsl, .nsl, .bool false, .nsl, .bool false, .nsl, .nsl, .bool false, .nsl, .bool false, .nsl, .nsl, .bool false, .nsl, .bool false, .nsl, .nsl, .bool false, .nsl, .bool false, .nsl, .nsl, .bool false, .nsl, .bool false, .nsl, .nsl, .bool false, .nsl, .bool false, .nsl, .nsl, .bool false, .nsl, .bool false, .nsl, .nsl, .bool false, .nsl, .bool false, .nsl, .nsl, .bool false, .nsl, .bool false, .nsl, .nsl, .bool false, .nsl, .bool false, .nsl, .nsl, .bool false, .nsl, .bool false, .nsl, .nsl, .bool false, .nsl, .bool false, .nsl, .nsl, .bool false, .nsl, .bool false, .nsl, .nsl, .bool false, .nsl, .bool false, .nsl, .nsl, .bool false, .nsl, .bool false, .nsl, .nsl, .bool false, .nsl, .bool false, .nsl, .nsl, .bool false, .nsl, .bool false, .nsl, .nsl, .bool false, .nsl, .bool false, .nsl, .nsl, .bool false, .nsl, .bool false, .nsl, .nsl, .bool false, .nsl, .bool false, .nsl, .nsl, .bool false, .nsl, .bool false, .nsl, .nsl, .bool false, .nsl, .bool false, .nsl, .nsl, .bool false, .nsl, .bool false, .nsl, .nsl, .bool false, .nsl, .bool false, .nsl, .nsl, .bool false, .nsl, .bool false, .nsl, .nsl, .int .i64 t11, .int .i64 t15] : List AV)))) fun v17 h_17 =>
    lett (fun  (h_23 : AHeap) =>
      some (.ret (v17), h_23)) fun k22 =>
    disk_Disk_Copy_L0 call t0 v17 k22 n 0 h_17)
set_option maxHeartbeats 4000000 in
set_option maxRecDepth 20000 in
theorem disk_Disk_Copy_ok {call : CallF} (hc : SaysAll Try.prog call) {n : Nat} {t0 : AV} {h : AHeap} {rR : ARes} {hR : AHeap} (hF : disk_Disk_Copy call n t0 h = some (rR, hR)) : Says Try.prog 21 [t0] h rR hR := by
  unfold disk_Disk_Copy at hF
  refine sO Try.func21 fun w0 m0 => ?_
  refine wW [(0, t0)] ?_
  refine oG fun n1 => W.r ?_
  refine oA 2 AV.nilp ?_
  refine oV [(0, t0)] (n1 ?_)
  refine oH fun n2 q2 => ?_
  refine oG fun n3 => W.r ?_
  refine oA 6 t0 ?_
  replace hF := outK_some hF; obtain ⟨v7, h_4, e5, hF⟩ := hF
  replace hF := obind_some hF; obtain ⟨t7, c6, hF⟩ := hF
  have c6 := avBool_some c6
  subst c6
  refine WL.b (some 7) (.bool t7) h_4 e5 ?_
  refine oV [(0, t0), (7, .bool t7)] (n3 ?_)
  cases t7 with
  | true =>
    refine oT hF fun hF => ?_
    refine oG fun n7 => W.r ?_
    refine oA 2 AV.nilp ?_
    refine oV [(2, AV.nilp)] (n7 (oY (q2 ?_)))
    exact lZ hF [.tmp 2] [AV.nilp] (rT res_nil)
  | false =>
    refine oU hF fun hF => ?_
    refine oZ (n2 ?_)
    refine oG fun n8 => ?_
    refine W.draw (by kernel_rfl) (hc.ok w0) (plan := [0, 1, 2, 3, 4, 5, 6, 7, 8, 9, 10]) (by kernel_rfl) (by kernel_rfl) (by kernel_rfl) ?_
    refine WD.a 0 (some 8) t0 h_4 ?_
    obtain ⟨t9, e9, hF⟩ := obind_some hF
    refine WD.b 0 (some 9) t9 h_4 (nil_chk (h := h_4) e9) ?_
    obtain ⟨t10, e10, hF⟩ := obind_some hF
    refine WD.b 0 (some 10) t10 h_4 (field_ptr (P := Try.prog) (h := h_4) (s := 57) (f := 1) (by kernel_rfl) e10) ?_
    replace hF := obind_some hF; obtain ⟨v11, e11, hF⟩ := hF
    replace hF := obind_some hF; obtain ⟨t11, c12, hF⟩ := hF
    have c12 := avInt_some c12
    subst c12
    refine WD.b 1 (some 11) (.int .i64 t11) h_4 (load_cell (P := Try.prog) (h := h_4) (t := 3) (by kernel_rfl) e11) ?_
    refine WD.a 0 (some 12) t0 h_4 ?_
    obtain ⟨t13, e13, hF⟩ := obind_some hF
    refine WD.b 0 (some 13) t13 h_4 (nil_chk (h := h_4) e13) ?_
    obtain ⟨t14, e14, hF⟩ := obind_some hF
    refine WD.b 0 (some 14) t14 h_4 (field_ptr (P := Try.prog) (h := h_4) (s := 57) (f := 2) (by kernel_rfl) e14) ?_
    replace hF := obind_some hF; obtain ⟨v15, e15, hF⟩ := hF
    replace hF := obind_some hF; obtain ⟨t15, c16, hF⟩ := hF
    have c16 := avInt_some c16
    subst c16
    refine WD.b 1 (some 15) (.int .i64 t15) h_4 (load_cell (P := Try.prog) (h := h_4) (t := 3) (by kernel_rfl) e15) ?_
    refine WD.a 0 (some 16) (.agg ([.bool false, .nsl, .bool false, .nsl, .nsl, .bool false, .nsl, .bool false, .nsl, .nsl, .bool false, .nsl, .bool false, .nsl, .nsl, .bool false, .nsl, .bool false, .nsl, .nsl, .bool false, .nsl, .bool false, .nsl, .nsl, .bool false, .nsl, .bool false, .nsl, .nsl, .bool false, .nsl, .bool false, .nsl, .nsl, .bool false, .nsl, .bool false, .nsl, .nsl, .bool false, .nsl, .bool false, .nsl, .nsl, .bool false, .nsl, .bool false, .nsl, .nsl, .bool false, .nsl, .bool false, .nsl, .nsl, .bool false, .nsl, .bool false, .nsl, .nsl, .bool false, .nsl, .bool false, .nsl, .nsl, .bool false, .nsl, .bool false, .nsl, .nsl, .bool false, .nsl, .bool false, .nsl, .nsl, .bool false, .nsl, .bool false, .nsl, .nsl, .bool false, .nsl, .bool false, .nsl, .nsl, .bool false, .nsl, .bool false, .nsl, .nsl, .bool false, .nsl, .bool false, .nsl, .nsl, .bool false, .nsl, .bool false, .nsl, .nsl, .bool false, .nsl, .bool false, .nsl, .nsl, .bool false, .nsl, .bool false, .nsl, .nsl, .bool false, .nsl, .bool false, .nsl, .nsl, .bool false, .nsl, .bool false, .nsl, .nsl, .bool false, .nsl, .bool false, .nsl, .nsl, .bool false, .nsl, .bool false, .nsl, .nsl, .bool false, .nsl, .bool false, .nsl, .nsl, .bool false, .nsl, .bool false, .nsl, .nsl, .bool false, .nsl, .bool false, .nsl, .nsl, .bool false, .nsl, .bool false, .nsl, .nsl, .bool false, .nsl, .bool false, .nsl, .nsl, .bool false, .nsl, .bool false, .nsl, .nsl, .int .i64 t11, .int .i64 t15] : List AV)) h_4 ?_
    obtain ⟨v17, h_17, e18, hF⟩ := outK_some hF
    refine WD.b 1 (some 17) v17 h_17 e18 ?_
    refine WD.a 0 (some 3) v17 h_17 ?_
    refine WD.nil ?_
    refine gW [(0, t0), (3, v17)] (n8 ?_)
    refine W.s (fun K19 n19 e19 q19 p19 => ?_)
    refine oG fun n20 => W.r ?_
    refine oA 18 (.int .i64 0) ?_
    refine oV [(0, t0), (3, v17), (18, .int .i64 0)] (n20 ?_)
    obtain ⟨k22, e22, hF⟩ := lett_some hF
    have J22 : ∀  (h_23 : AHeap), k22 h_23 = some (rR, hR) → Go w0 m0 (Func.ntmps Try.f21) (K19 .normal) [(3, v17)] [] h_23 := by
      intro  h_23 hF
      rw [e22] at hF
      refine n19 ?_
      refine oG fun n24 => W.r ?_
      refine oA 46 v17 ?_
      refine oA 2 v17 ?_
      refine oV [(2, v17)] (n24 (oY ?_))
      exact lZ hF [.tmp 2] [v17] (rT res_nil)
    refine W.blockK (by kernel_rfl) (fun K21 n21 s21 o21 q21 p21 => ?_)
    refine W.loopK (by kernel_rfl) (fun I25 K25 b25 n25 e25 q25 p25 => ?_)
    have L25 : ∀ (m : Nat) (t18 : Int) (h_26 : AHeap), disk_Disk_Copy_L0 call t0 v17 k22 m t18 h_26 = some (rR, hR) → Go w0 m0 (Func.ntmps Try.f21) I25 [(0, t0), (3, v17), (18, .int .i64 t18)] [] h_26 := by
      intro m
      induction m with
      | zero => intro t18 h_26 hF; cases hF
      | succ m ih25 =>
        intro t18 h_26 hF
        rw [disk_Disk_Copy_L0_s] at hF; unfold disk_Disk_Copy_L0b at hF
        refine b25 ?_
        refine oG fun n27 => W.r ?_
        refine oB 19 hF fun t19 hF => ?_
        refine oV [(0, t0), (3, v17), (18, .int .i64 t18), (19, .bool t19)] (n27 ?_)
        refine W.s (fun K29 n29 e29 q29 p29 => ?_)
        cases t19 with
        | true =>
          refine oT hF fun hF => ?_
          refine oZ (n29 ?_)
          refine oG fun n30 => ?_
          refine W.blockK (by kernel_rfl) (fun K31 n31 s31 o31 q31 p31 => ?_)
          refine oG fun n32 => W.r ?_
          refine oA 20 (.int .i64 t18) ?_
          refine oA 4 (.int .i64 t18) ?_
          refine oV [(0, t0), (3, v17), (4, .int .i64 t18), (18, .int .i64 t18)] (n32 ?_)
          refine oG fun n33 => W.r ?_
          refine oA 21 t0 ?_
          refine oA 22 (.int .i64 t18) ?_
          refine oC0 23 hF fun t23 hF => ?_
          refine oF 24 57 0 hF fun t24 hF => ?_
          refine oQ 25 55 54 .i64 hF fun t25 hF => ?_
          refine oA 5 t25 ?_
          refine oV [(0, t0), (3, v17), (4, .int .i64 t18), (5, t25), (18, .int .i64 t18)] (n33 ?_)
          refine W.draw (by kernel_rfl) (hc.ok w0) (plan := [0, 1, 2, 3, 4, 6, 7, 8, 10, 11, 12, 13, 16, 17, 5, 9, 14, 15, 18, 19]) (by kernel_rfl) (by kernel_rfl) (by kernel_rfl) ?_
          refine WD.a 0 (some 26) v17 h_26 ?_
          refine WD.a 0 (some 27) (.int .i64 t18) h_26 ?_
          refine WD.a 0 (some 28) t25 h_26 ?_
          obtain ⟨t29, e37, hF⟩ := obind_some hF
          refine WD.b 0 (some 29) t29 h_26 (nil_chk (h := h_26) e37) ?_
          obtain ⟨t30, e38, hF⟩ := obind_some hF
          refine WD.b 0 (some 30) t30 h_26 (field_ptr (P := Try.prog) (h := h_26) (s := 54) (f := 0) (by kernel_rfl) e38) ?_
          refine WD.a 0 (some 32) t25 h_26 ?_
          obtain ⟨t33, e39, hF⟩ := obind_some hF
          refine WD.b 0 (some 33) t33 h_26 (nil_chk (h := h_26) e39) ?_
          obtain ⟨t34, e40, hF⟩ := obind_some hF
          refine WD.b 0 (some 34) t34 h_26 (field_ptr (P := Try.prog) (h := h_26) (s := 54) (f := 1) (by kernel_rfl) e40) ?_
          refine WD.a 0 (some 36) t25 h_26 ?_
          obtain ⟨t37, e41, hF⟩ := obind_some hF
          refine WD.b 0 (some 37) t37 h_26 (nil_chk (h := h_26) e41) ?_
          obtain ⟨t38, e42, hF⟩ := obind_some hF
          refine WD.b 0 (some 38) t38 h_26 (field_ptr (P := Try.prog) (h := h_26) (s := 54) (f := 2) (by kernel_rfl) e42) ?_
          obtain ⟨v39, e43, hF⟩ := obind_some hF
          refine WD.b 1 (some 39) v39 h_26 (load_cell (P := Try.prog) (h := h_26) (t := 52) (by kernel_rfl) e43) ?_
          obtain ⟨t42, e44, hF⟩ := obind_some hF
          refine WD.b 0 (some 42) t42 h_26 (nil_chk (h := h_26) e44) ?_
          obtain ⟨t43, e45, hF⟩ := obind_some hF
          refine WD.b 0 (some 43) t43 h_26 (field_ptr (P := Try.prog) (h := h_26) (s := 57) (f := 0) (by kernel_rfl) e45) ?_
          replace hF := callN_some hF; obtain ⟨r31, h_46, e47, hF⟩ := hF
          replace hF := obind_some hF; obtain ⟨t31, c48, hF⟩ := hF
          have c48 := avAgg_some c48
          subst c48
          obtain ⟨k49, hF⟩ := chk_some hF
          refine WD.call (d := (some 31)) (by kernel_rfl) (by kernel_rfl) (by kernel_rfl) e47 (k := 2) (by kernel_rfl) (fun _ => (Eq.trans (by kernel_rfl) k49)) (by decide) ?_
          replace hF := callN_some hF; obtain ⟨r35, h_50, e51, hF⟩ := hF
          replace hF := obind_some hF; obtain ⟨t35, c52, hF⟩ := hF
          have c52 := avAgg_some c52
          subst c52
          obtain ⟨k53, hF⟩ := chk_some hF
          refine WD.call (d := (some 35)) (by kernel_rfl) (by kernel_rfl) (by kernel_rfl) e51 (k := 2) (by kernel_rfl) (fun _ => (Eq.trans (by kernel_rfl) k53)) (by decide) ?_
          obtain ⟨r40, h_54, e55, hF⟩ := callN_some hF
          refine WD.call (d := (some 40)) (by kernel_rfl) (by kernel_rfl) (by kernel_rfl) e55 (k := 2) (by kernel_rfl) (fun _ => (by kernel_rfl)) (by decide) ?_
          obtain ⟨t41, e56, hF⟩ := obind_some hF
          refine WD.val (d := (some 41)) (v := .agg t41) (h' := h_54) (by kernel_rfl) (by kernel_rfl) (bld_ok (by kernel_rfl) e56) (k := 0) (by kernel_rfl) (fun e => absurd e (by decide)) (by decide) ?_
          obtain ⟨t44, e57, hF⟩ := obind_some hF
          refine WD.b 0 (some 44) t44 h_54 (index_arr (P := Try.prog) (h := h_54) (t := 55) (e' := 54) (k := .i64) (by kernel_rfl) (by kernel_rfl) (by kernel_rfl) e57) ?_
          obtain ⟨h_58, e59, hF⟩ := obind_some hF
          refine WD.eff (h' := h_58) (by kernel_rfl) (by kernel_rfl) (Eq.trans (by kernel_rfl) (store_row (P := Try.prog) (h := h_54) (t := 54) (v := (.agg t41)) (by kernel_rfl) (by kernel_rfl) e59)) (k := 2) (by kernel_rfl) (fun _ => (by kernel_rfl)) (by decide) ?_
          refine WD.nil ?_
          refine gW [(0, t0), (3, v17), (18, .int .i64 t18)] (n31 (n30 (W.r ?_)))
          refine oI 45 .i64 hF fun t45 hF => ?_
          refine oA 18 (.int .i64 t45) ?_
          refine oV [(0, t0), (3, v17), (18, .int .i64 t45)] (n25 ?_)
          exact gW _ (ih25 _ _ hF)
        | false =>
          refine oU hF fun hF => ?_
          refine W.exit (by kernel_rfl) ?_
          refine e29 (e25 ?_)
          refine s21 (by kernel_rfl) ?_
          exact gW _ (J22 _ hF)
    exact gW _ (L25 _ _ _ hF)
noncomputable def slices_Clone___disk_change_disk_change_ (_ : CallF) (_ : Nat) (t0 : AV) (h : AHeap) : R :=
  outK (opBin Try.prog h .eql 52 true (some t0) (some AV.nsl)) fun v4 h_4 =>
  obind (avBool v4) fun t4 =>
  ifB t4
  (
    some (.ret (AV.nsl), h_4))
  (
    outK (bldSl Try.prog h_4 52 0 []) fun v5 h_9 =>
    outK (opAppend Try.prog h_9 52 52 v5 t0) fun v7 h_11 =>
    some (.ret (v7), h_11))
set_option maxHeartbeats 4000000 in
set_option maxRecDepth 20000 in
theorem slices_Clone___disk_change_disk_change__ok {call : CallF} (_ : SaysAll Try.prog call) {n : Nat} {t0 : AV} {h : AHeap} {rR : ARes} {hR : AHeap} (hF : slices_Clone___disk_change_disk_change_ call n t0 h = some (rR, hR)) : Says Try.prog 34 [t0] h rR hR := by
  unfold slices_Clone___disk_change_disk_change_ at hF
  refine sO Try.func34 fun w0 m0 => ?_
  refine wW [(0, t0)] ?_
  refine oG fun n1 => W.r ?_
  refine oA 2 AV.nsl ?_
  refine oV [(0, t0)] (n1 ?_)
  refine oH fun n2 q2 => ?_
  refine oG fun n3 => W.r ?_
  refine oA 3 t0 ?_
  replace hF := outK_some hF; obtain ⟨v4, h_4, e5, hF⟩ := hF
  replace hF := obind_some hF; obtain ⟨t4, c6, hF⟩ := hF
  have c6 := avBool_some c6
  subst c6
  refine WL.b (some 4) (.bool t4) h_4 e5 ?_
  refine oV [(0, t0), (4, .bool t4)] (n3 ?_)
  cases t4 with
  | true =>
    refine oT hF fun hF => ?_
    refine oG fun n7 => W.r ?_
    refine oA 2 AV.nsl ?_
    refine oV [(2, AV.nsl)] (n7 (oY (q2 ?_)))
    exact lZ hF [.tmp 2] [AV.nsl] (rT res_nil)
  | false =>
    refine oU hF fun hF => ?_
    refine oZ (n2 ?_)
    refine oG fun n8 => W.r ?_
    refine oK 5 hF fun v5 h_9 hF => ?_
    refine oA 6 t0 ?_
    refine oK 7 hF fun v7 h_11 hF => ?_
    refine oA 2 v7 ?_
    refine oV [(2, v7)] (n8 (oY ?_))
    exact lZ hF [.tmp 2] [v7] (rT res_nil)
noncomputable def slices_Clone___int_int_ (_ : CallF) (_ : Nat) (t0 : AV) (h : AHeap) : R :=
  outK (opBin Try.prog h .eql 34 true (some t0) (some AV.nsl)) fun v4 h_4 =>
  obind (avBool v4) fun t4 =>
  ifB t4
  (
    some (.ret (AV.nsl), h_4))
  (
    outK (bldSl Try.prog h_4 34 0 []) fun v5 h_9 =>
    outK (opAppend Try.prog h_9 34 34 v5 t0) fun v7 h_11 =>
    some (.ret (v7), h_11))
set_option maxHeartbeats 4000000 in
set_option maxRecDepth 20000 in
theorem slices_Clone___int_int__ok {call : CallF} (_ : SaysAll Try.prog call) {n : Nat} {t0 : AV} {h : AHeap} {rR : ARes} {hR : AHeap} (hF : slices_Clone___int_int_ call n t0 h = some (rR, hR)) : Says Try.prog 37 [t0] h rR hR := by
  unfold slices_Clone___int_int_ at hF
  refine sO Try.func37 fun w0 m0 => ?_
  refine wW [(0, t0)] ?_
  refine oG fun n1 => W.r ?_
  refine oA 2 AV.nsl ?_
  refine oV [(0, t0)] (n1 ?_)
  refine oH fun n2 q2 => ?_
  refine oG fun n3 => W.r ?_
  refine oA 3 t0 ?_
  replace hF := outK_some hF; obtain ⟨v4, h_4, e5, hF⟩ := hF
  replace hF := obind_some hF; obtain ⟨t4, c6, hF⟩ := hF
  have c6 := avBool_some c6
  subst c6
  refine WL.b (some 4) (.bool t4) h_4 e5 ?_
  refine oV [(0, t0), (4, .bool t4)] (n3 ?_)
  cases t4 with
  | true =>
    refine oT hF fun hF => ?_
    refine oG fun n7 => W.r ?_
    refine oA 2 AV.nsl ?_
    refine oV [(2, AV.nsl)] (n7 (oY (q2 ?_)))
    exact lZ hF [.tmp 2] [AV.nsl] (rT res_nil)
  | false =>
    refine oU hF fun hF => ?_
    refine oZ (n2 ?_)
    refine oG fun n8 => W.r ?_
    refine oK 5 hF fun v5 h_9 hF => ?_
    refine oA 6 t0 ?_
    refine oK 7 hF fun v7 h_11 hF => ?_
    refine oA 2 v7 ?_
    refine oV [(2, v7)] (n8 (oY ?_))
    exact lZ hF [.tmp 2] [v7] (rT res_nil)
noncomputable def slices_Equal___int_int__L0b (t0 : AV) (t1 : AV) (t12 : Int) (k12 : AHeap → R) (self : Int → AHeap → R) (t13 : Int) (h_16 : AHeap) : R :=
  lett (decide (t13 < t12)) fun (t14 : Bool) =>
  ifB t14
  (
    obind (idxP 1 t0 t13) fun t18 =>
    obind (ldCell h_16 t18) fun v19 =>
    obind (avInt .i64 v19) fun t19 =>
    obind (idxP 1 t1 t13) fun t22 =>
    obind (ldCell h_16 t22) fun v23 =>
    obind (avInt .i64 v23) fun t23 =>
    lett ((t19 : Int) != t23) fun (t24 : Bool) =>
    ifB t24
    (
      some (.ret (.bool false), h_16))
    (
      lett (IntKind.i64.wrap (t13 + 1)) fun (t25 : Int) =>
      self t25 h_16))
  (
    k12 h_16)
noncomputable def slices_Equal___int_int__L0 (t0 : AV) (t1 : AV) (t12 : Int) (k12 : AHeap → R) : Nat → Int → AHeap → R := iterR (fun _ _ => none) (slices_Equal___int_int__L0b t0 t1 t12 k12)
theorem slices_Equal___int_int__L0_s (t0 : AV) (t1 : AV) (t12 : Int) (k12 : AHeap → R) (m : Nat) : slices_Equal___int_int__L0 t0 t1 t12 k12 (m + 1) = slices_Equal___int_int__L0b t0 t1 t12 k12 (slices_Equal___int_int__L0 t0 t1 t12 k12 m) := rfl
noncomputable def slices_Equal___int_int_ (_ : CallF) (n : Nat) (t0 : AV) (t1 : AV) (h : AHeap) : R :=
  obind (lenL t0) fun t7 =>
  obind (lenL t1) fun t9 =>
  lett ((t7 : Int) != t9) fun (t10 : Bool) =>
  ifB t10
  (
    some (.ret (.bool false), h))
  (
    obind (lenL t0) fun t12 =>
    lett (fun  (h_13 : AHeap) =>
      some (.ret (.bool true), h_13)) fun k12 =>
    slices_Equal___int_int__L0 t0 t1 t12 k12 n 0 h)
set_option maxHeartbeats 4000000 in
set_option maxRecDepth 20000 in
theorem slices_Equal___int_int__ok {call : CallF} (hc : SaysAll Try.prog call) {n : Nat} {t0 : AV} {t1 : AV} {h : AHeap} {rR : ARes} {hR : AHeap} (hF : slices_Equal___int_int_ call n t0 t1 h = some (rR, hR)) : Says Try.prog 39 [t0, t1] h rR hR := by
  unfold slices_Equal___int_int_ at hF
  refine sO Try.func39 fun w0 m0 => ?_
  refine wW [(0, t0), (1, t1)] ?_
  refine oG fun n1 => W.r ?_
  refine oA 4 (.bool false) ?_
  refine oV [(0, t0), (1, t1)] (n1 ?_)
  refine oH fun n2 q2 => ?_
  refine oG fun n3 => W.r ?_
  refine oA 6 t0 ?_
  refine oM 7 34 3 hF fun t7 hF => ?_
  refine oA 8 t1 ?_
  refine oM 9 34 3 hF fun t9 hF => ?_
  refine oB 10 hF fun t10 hF => ?_
  refine oV [(0, t0), (1, t1), (10, .bool t10)] (n3 ?_)
  cases t10 with
  | true =>
    refine oT hF fun hF => ?_
    refine oG fun n7 => W.r ?_
    refine oA 4 (.bool false) ?_
    refine oV [(4, .bool false)] (n7 (oY (q2 ?_)))
    exact lZ hF [.tmp 4] [.bool false] (rT res_nil)
  | false =>
    refine oU hF fun hF => ?_
    refine oZ (n2 ?_)
    refine W.s (fun K8 n8 e8 q8 p8 => ?_)
    refine oG fun n9 => W.r ?_
    refine oA 11 t0 ?_
    refine oM 12 34 3 hF fun t12 hF => ?_
    refine oA 13 (.int .i64 0) ?_
    refine oV [(0, t0), (1, t1), (12, .int .i64 t12), (13, .int .i64 0)] (n9 ?_)
    obtain ⟨k12, e12, hF⟩ := lett_some hF
    have J12 : ∀  (h_13 : AHeap), k12 h_13 = some (rR, hR) → Go w0 m0 (Func.ntmps Try.f39) (K8 .normal) [] [] h_13 := by
      intro  h_13 hF
      rw [e12] at hF
      refine n8 ?_
      refine oG fun n14 => W.r ?_
      refine oA 4 (.bool true) ?_
      refine oV [(4, .bool true)] (n14 (oY ?_))
      exact lZ hF [.tmp 4] [.bool true] (rT res_nil)
    refine W.blockK (by kernel_rfl) (fun K11 n11 s11 o11 q11 p11 => ?_)
    refine W.loopK (by kernel_rfl) (fun I15 K15 b15 n15 e15 q15 p15 => ?_)
    have L15 : ∀ (m : Nat) (t13 : Int) (h_16 : AHeap), slices_Equal___int_int__L0 t0 t1 t12 k12 m t13 h_16 = some (rR, hR) → Go w0 m0 (Func.ntmps Try.f39) I15 [(0, t0), (1, t1), (12, .int .i64 t12), (13, .int .i64 t13)] [] h_16 := by
      intro m
      induction m with
      | zero => intro t13 h_16 hF; cases hF
      | succ m ih15 =>
        intro t13 h_16 hF
        rw [slices_Equal___int_int__L0_s] at hF; unfold slices_Equal___int_int__L0b at hF
        refine b15 ?_
        refine oG fun n17 => W.r ?_
        refine oB 14 hF fun t14 hF => ?_
        refine oV [(0, t0), (1, t1), (12, .int .i64 t12), (13, .int .i64 t13), (14, .bool t14)] (n17 ?_)
        refine W.s (fun K19 n19 e19 q19 p19 => ?_)
        cases t14 with
        | true =>
          refine oT hF fun hF => ?_
          refine oZ (n19 ?_)
          refine oH fun n20 q20 => ?_
          refine W.blockK (by kernel_rfl) (fun K21 n21 s21 o21 q21 p21 => ?_)
          refine oG fun n22 => W.r ?_
          refine oA 15 (.int .i64 t13) ?_
          refine oA 5 (.int .i64 t13) ?_
          refine oV [(0, t0), (1, t1), (5, .int .i64 t13), (12, .int .i64 t12), (13, .int .i64 t13)] (n22 ?_)
          refine oG fun n23 => ?_
          refine W.draw (by kernel_rfl) (hc.ok w0) (plan := [0, 1, 2, 3, 4, 5, 6, 7, 8]) (by kernel_rfl) (by kernel_rfl) (by kernel_rfl) ?_
          refine WD.a 0 (some 16) t0 h_16 ?_
          refine WD.a 0 (some 17) (.int .i64 t13) h_16 ?_
          obtain ⟨t18, e24, hF⟩ := obind_some hF
          refine WD.b 0 (some 18) t18 h_16 (index_row (P := Try.prog) (h := h_16) (t := 34) (e' := 3) (k := .i64) (by kernel_rfl) (by kernel_rfl) (by kernel_rfl) e24) ?_
          replace hF := obind_some hF; obtain ⟨v19, e25, hF⟩ := hF
          replace hF := obind_some hF; obtain ⟨t19, c26, hF⟩ := hF
          have c26 := avInt_some c26
          subst c26
          refine WD.b 1 (some 19) (.int .i64 t19) h_16 (load_cell (P := Try.prog) (h := h_16) (t := 3) (by kernel_rfl) e25) ?_
          refine WD.a 0 (some 20) t1 h_16 ?_
          refine WD.a 0 (some 21) (.int .i64 t13) h_16 ?_
          obtain ⟨t22, e27, hF⟩ := obind_some hF
          refine WD.b 0 (some 22) t22 h_16 (index_row (P := Try.prog) (h := h_16) (t := 34) (e' := 3) (k := .i64) (by kernel_rfl) (by kernel_rfl) (by kernel_rfl) e27) ?_
          replace hF := obind_some hF; obtain ⟨v23, e28, hF⟩ := hF
          replace hF := obind_some hF; obtain ⟨t23, c29, hF⟩ := hF
          have c29 := avInt_some c29
          subst c29
          refine WD.b 1 (some 23) (.int .i64 t23) h_16 (load_cell (P := Try.prog) (h := h_16) (t := 3) (by kernel_rfl) e28) ?_
          obtain ⟨t24, e30, hF⟩ := lett_some hF
          refine WD.val (d := (some 24)) (v := .bool t24) (h' := h_16) (by kernel_rfl) (by kernel_rfl) (val_of AV.bool e30 (by kernel_rfl)) (k := 0) (by kernel_rfl) (fun e => absurd e (by decide)) (by decide) ?_
          refine WD.nil ?_
          refine gW [(0, t0), (1, t1), (12, .int .i64 t12), (13, .int .i64 t13), (24, .bool t24)] (n23 ?_)
          cases t24 with
          | true =>
            refine oT hF fun hF => ?_
            refine oG fun n31 => W.r ?_
            refine oA 4 (.bool false) ?_
            refine oV [(4, .bool false)] (n31 (oY (q21 (q20 (q15 (q11 (q8 ?_)))))))
            exact lZ hF [.tmp 4] [.bool false] (rT res_nil)
          | false =>
            refine oU hF fun hF => ?_
            refine oZ (n21 (n20 (W.r ?_)))
            refine oI 25 .i64 hF fun t25 hF => ?_
            refine oA 13 (.int .i64 t25) ?_
            refine oV [(0, t0), (1, t1), (12, .int .i64 t12), (13, .int .i64 t25)] (n15 ?_)
            exact gW _ (ih15 _ _ hF)
        | false =>
          refine oU hF fun hF => ?_
          refine W.exit (by kernel_rfl) ?_
          refine e19 (e15 ?_)
          refine s11 (by kernel_rfl) ?_
          exact gW _ (J12 _ hF)
    exact gW _ (L15 _ _ _ hF)
noncomputable def law04_does (call : CallF) (_ : Nat) (t0 : AV) (t1 : AV) (t2 : List AV) (h : AHeap) : R :=
  outK (opBox h 43 (some (.agg t2))) fun v5 h_2 =>
  obind (fldP 0 v5) fun t8 =>
  obind (ldCell h_2 t8) fun v9 =>
  obind (avInt .i64 v9) fun t9 =>
  lett ((t9 : Int) == 0) fun (t11 : Bool) =>
  ifB t11
  (
    obind (fldP 1 v5) fun t13 =>
    obind (ldCell h_2 t13) fun v14 =>
    obind (avInt .i64 v14) fun t14 =>
    obind (fldP 3 v5) fun t15 =>
    obind (ldCell h_2 t15) fun v16 =>
    obind (avStr v16) fun t16 =>
    obind (fldP 1 v5) fun t19 =>
    obind (ldCell h_2 t19) fun v20 =>
    obind (avInt .i64 v20) fun t20 =>
    obind (fldP 3 v5) fun t21 =>
    obind (ldCell h_2 t21) fun v22 =>
    obind (avStr v22) fun t22 =>
    callN (call 9 [t0, .int .i64 t14, strA t16] h_2) fun r17 h_25 =>
    obind (avInt .i64 r17) fun t17 =>
    chk (reLoad Try.prog h_25 9 t21 (strA t22) && (reLoad Try.prog h_25 3 t19 (.int .i64 t20) && (true && (true && true)))) <|
    callN (call 35 [t1, .int .i64 t20, .agg ([.int .i64 1, strA t22, .int .i64 0] : List AV)] h_25) fun r24 h_29 =>
    obind (avInt .i64 r24) fun t24 =>
    lett ((t17 : Int) == t24) fun (t25 : Bool) =>
    some (.ret (.bool t25), h_29))
  (
    lett ((t9 : Int) == 1) fun (t27 : Bool) =>
    ifB t27
    (
      obind (fldP 1 v5) fun t29 =>
      obind (ldCell h_2 t29) fun v30 =>
      obind (avInt .i64 v30) fun t30 =>
      obind (fldP 2 v5) fun t31 =>
      obind (ldCell h_2 t31) fun v32 =>
      obind (avInt .i64 v32) fun t32 =>
      obind (fldP 1 v5) fun t35 =>
      obind (ldCell h_2 t35) fun v36 =>
      obind (avInt .i64 v36) fun t36 =>
      obind (fldP 2 v5) fun t37 =>
      obind (ldCell h_2 t37) fun v38 =>
      obind (avInt .i64 v38) fun t38 =>
      callN (call 15 [t0, .int .i64 t30, .int .i64 t32] h_2) fun r33 h_48 =>
      obind (avInt .i64 r33) fun t33 =>
      chk (reLoad Try.prog h_48 3 t37 (.int .i64 t38) && (reLoad Try.prog h_48 3 t35 (.int .i64 t36) && (true && (true && true)))) <|
      callN (call 35 [t1, .int .i64 t36, .agg ([.int .i64 2, .str 0 0, .int .i64 t38] : List AV)] h_48) fun r40 h_52 =>
      obind (avInt .i64 r40) fun t40 =>
      lett ((t33 : Int) == t40) fun (t41 : Bool) =>
      some (.ret (.bool t41), h_52))
    (
      lett ((t9 : Int) == 2) fun (t43 : Bool) =>
      ifB t43
      (
        obind (fldP 1 v5) fun t45 =>
        obind (ldCell h_2 t45) fun v46 =>
        obind (avInt .i64 v46) fun t46 =>
        obind (fldP 1 v5) fun t49 =>
        obind (ldCell h_2 t49) fun v50 =>
        obind (avInt .i64 v50) fun t50 =>
        callN (call 16 [t0, .int .i64 t46] h_2) fun r47 h_65 =>
        obind (avInt .i64 r47) fun t47 =>
        chk (reLoad Try.prog h_65 3 t49 (.int .i64 t50) && (true && true)) <|
        callN (call 35 [t1, .int .i64 t50, .agg ([.int .i64 3, .str 0 0, .int .i64 0] : List AV)] h_65) fun r52 h_69 =>
        obind (avInt .i64 r52) fun t52 =>
        lett ((t47 : Int) == t52) fun (t53 : Bool) =>
        some (.ret (.bool t53), h_69))
      (
        lett ((t9 : Int) == 3) fun (t55 : Bool) =>
        ifB t55
        (
          obind (fldP 1 v5) fun t57 =>
          obind (ldCell h_2 t57) fun v58 =>
          obind (avInt .i64 v58) fun t58 =>
          obind (fldP 1 v5) fun t61 =>
          obind (ldCell h_2 t61) fun v62 =>
          obind (avInt .i64 v62) fun t62 =>
          callN (call 10 [t0, .int .i64 t58] h_2) fun r59 h_82 =>
          obind (avInt .i64 r59) fun t59 =>
          chk (reLoad Try.prog h_82 3 t61 (.int .i64 t62) && (true && true)) <|
          callN (call 36 [t1, .int .i64 t62] h_82) fun r63 h_86 =>
          obind (avInt .i64 r63) fun t63 =>
          lett ((t59 : Int) == t63) fun (t64 : Bool) =>
          some (.ret (.bool t64), h_86))
        (
          lett ((t9 : Int) == 4) fun (t66 : Bool) =>
          ifB t66
          (
            obind (fldP 2 v5) fun t68 =>
            obind (ldCell h_2 t68) fun v69 =>
            obind (avInt .i64 v69) fun t69 =>
            lett (if (-1) > t69 then (-1) else t69) fun (t70 : Int) =>
            obind (nilC t1) fun t71 =>
            obind (fldP 96 t71) fun t72 =>
            obind (stRow h_2 1 [.int .i64 t70] t72) fun h_99 =>
            obind (fldP 2 v5) fun t74 =>
            obind (ldCell h_99 t74) fun v75 =>
            obind (avInt .i64 v75) fun t75 =>
            callN (call 17 [t0, .int .i64 t75] h_99) fun r76 h_105 =>
            obind (avInt .i64 r76) fun t76 =>
            lett ((t76 : Int) == 0) fun (t77 : Bool) =>
            some (.ret (.bool t77), h_105))
          (
            obind (fldP 4 v5) fun t78 =>
            obind (ldCell h_2 t78) fun v79 =>
            callN (call 37 [v79] h_2) fun r80 h_112 =>
            obind (fldP 4 v5) fun t82 =>
            obind (ldCell h_112 t82) fun v83 =>
            obind (fldP 2 v5) fun t84 =>
            obind (ldCell h_112 t84) fun v85 =>
            obind (avInt .i64 v85) fun t85 =>
            callN (call 38 [t1, v83, .int .i64 t85] h_112) fun _ h_120 =>
            obind (fldP 2 v5) fun t89 =>
            obind (ldCell h_120 t89) fun v90 =>
            obind (avInt .i64 v90) fun t90 =>
            callN (call 14 [t0, r80, .int .i64 t90] h_120) fun r91 h_126 =>
            obind (avInt .i64 r91) fun t91 =>
            lett ((t91 : Int) == 0) fun (t92 : Bool) =>
            lett (fun (t98 : Bool) (h_130 : AHeap) =>
              some (.ret (.bool t98), h_130)) fun j98 =>
            ifB t92
            (
              obind (fldP 4 v5) fun t95 =>
              obind (ldCell h_126 t95) fun v96 =>
              callN (call 39 [r80, v96] h_126) fun r97 h_135 =>
              obind (avBool r97) fun t97 =>
              j98 t97 h_135)
            (
              j98 false h_126))))))
set_option maxHeartbeats 4000000 in
set_option maxRecDepth 20000 in
theorem law04_does_ok {call : CallF} (hc : SaysAll Try.prog call) {n : Nat} {t0 : AV} {t1 : AV} {t2 : List AV} {h : AHeap} {rR : ARes} {hR : AHeap} (hF : law04_does call n t0 t1 t2 h = some (rR, hR)) : Says Try.prog 25 [t0, t1, .agg t2] h rR hR := by
  unfold law04_does at hF
  refine sO Try.func25 fun w0 m0 => ?_
  refine wW [(0, t0), (1, t1), (2, .agg t2)] ?_
  refine oG fun n1 => W.r ?_
  refine oK 5 hF fun v5 h_2 hF => ?_
  refine oA 6 (.bool false) ?_
  refine oV [(0, t0), (1, t1), (5, v5)] (n1 ?_)
  refine oH fun n4 q4 => ?_
  refine oG fun n5 => W.r ?_
  refine oF 8 43 0 hF fun t8 hF => ?_
  refine oLi 9 3 hF fun t9 hF => ?_
  refine oV [(0, t0), (1, t1), (5, v5), (9, .int .i64 t9)] (n5 ?_)
  refine W.blockK (by kernel_rfl) (fun K9 n9 s9 o9 q9 p9 => ?_)
  refine oG fun n10 => W.r ?_
  refine oB 11 hF fun t11 hF => ?_
  refine oA 10 (.bool t11) ?_
  refine oV [(0, t0), (1, t1), (5, v5), (9, .int .i64 t9), (10, .bool t11)] (n10 ?_)
  cases t11 with
  | true =>
    refine oT hF fun hF => ?_
    refine oG fun n12 => ?_
    refine W.draw (by kernel_rfl) (hc.ok w0) (plan := [0, 1, 2, 3, 4, 6, 7, 8, 9, 10, 11, 5, 12, 13, 14]) (by kernel_rfl) (by kernel_rfl) (by kernel_rfl) ?_
    refine WD.a 0 (some 12) t0 h_2 ?_
    obtain ⟨t13, e13, hF⟩ := obind_some hF
    refine WD.b 0 (some 13) t13 h_2 (field_ptr (P := Try.prog) (h := h_2) (s := 43) (f := 1) (by kernel_rfl) e13) ?_
    replace hF := obind_some hF; obtain ⟨v14, e14, hF⟩ := hF
    replace hF := obind_some hF; obtain ⟨t14, c15, hF⟩ := hF
    have c15 := avInt_some c15
    subst c15
    refine WD.b 1 (some 14) (.int .i64 t14) h_2 (load_cell (P := Try.prog) (h := h_2) (t := 3) (by kernel_rfl) e14) ?_
    obtain ⟨t15, e16, hF⟩ := obind_some hF
    refine WD.b 0 (some 15) t15 h_2 (field_ptr (P := Try.prog) (h := h_2) (s := 43) (f := 3) (by kernel_rfl) e16) ?_
    replace hF := obind_some hF; obtain ⟨v16, e17, hF⟩ := hF
    replace hF := obind_some hF; obtain ⟨t16, c18, hF⟩ := hF
    have c18 := avStr_some c18
    subst c18
    refine WD.b 1 (some 16) (strA t16) h_2 (load_cell (P := Try.prog) (h := h_2) (t := 9) (by kernel_rfl) e17) ?_
    refine WD.a 0 (some 18) t1 h_2 ?_
    obtain ⟨t19, e19, hF⟩ := obind_some hF
    refine WD.b 0 (some 19) t19 h_2 (field_ptr (P := Try.prog) (h := h_2) (s := 43) (f := 1) (by kernel_rfl) e19) ?_
    replace hF := obind_some hF; obtain ⟨v20, e20, hF⟩ := hF
    replace hF := obind_some hF; obtain ⟨t20, c21, hF⟩ := hF
    have c21 := avInt_some c21
    subst c21
    refine WD.b 1 (some 20) (.int .i64 t20) h_2 (load_cell (P := Try.prog) (h := h_2) (t := 3) (by kernel_rfl) e20) ?_
    obtain ⟨t21, e22, hF⟩ := obind_some hF
    refine WD.b 0 (some 21) t21 h_2 (field_ptr (P := Try.prog) (h := h_2) (s := 43) (f := 3) (by kernel_rfl) e22) ?_
    replace hF := obind_some hF; obtain ⟨v22, e23, hF⟩ := hF
    replace hF := obind_some hF; obtain ⟨t22, c24, hF⟩ := hF
    have c24 := avStr_some c24
    subst c24
    refine WD.b 1 (some 22) (strA t22) h_2 (load_cell (P := Try.prog) (h := h_2) (t := 9) (by kernel_rfl) e23) ?_
    refine WD.a 0 (some 23) (.agg ([.int .i64 1, strA t22, .int .i64 0] : List AV)) h_2 ?_
    replace hF := callN_some hF; obtain ⟨r17, h_25, e26, hF⟩ := hF
    replace hF := obind_some hF; obtain ⟨t17, c27, hF⟩ := hF
    have c27 := avInt_some c27
    subst c27
    obtain ⟨k28, hF⟩ := chk_some hF
    refine WD.call (d := (some 17)) (by kernel_rfl) (by kernel_rfl) (by kernel_rfl) e26 (k := 2) (by kernel_rfl) (fun _ => (Eq.trans (by kernel_rfl) k28)) (by decide) ?_
    replace hF := callN_some hF; obtain ⟨r24, h_29, e30, hF⟩ := hF
    replace hF := obind_some hF; obtain ⟨t24, c31, hF⟩ := hF
    have c31 := avInt_some c31
    subst c31
    refine WD.call (d := (some 24)) (by kernel_rfl) (by kernel_rfl) (by kernel_rfl) e30 (k := 2) (by kernel_rfl) (fun _ => (by kernel_rfl)) (by decide) ?_
    obtain ⟨t25, e32, hF⟩ := lett_some hF
    refine WD.val (d := (some 25)) (v := .bool t25) (h' := h_29) (by kernel_rfl) (by kernel_rfl) (val_of AV.bool e32 (by kernel_rfl)) (k := 0) (by kernel_rfl) (fun e => absurd e (by decide)) (by decide) ?_
    refine WD.a 0 (some 6) (.bool t25) h_29 ?_
    refine WD.nil ?_
    refine gW [(6, .bool t25)] (n12 (oY (q9 (q4 ?_))))
    exact lZ hF [.tmp 6] [.bool t25] (rT res_nil)
  | false =>
    refine oU hF fun hF => ?_
    refine oG fun n33 => W.r ?_
    refine oB 27 hF fun t27 hF => ?_
    refine oA 26 (.bool t27) ?_
    refine oV [(0, t0), (1, t1), (5, v5), (9, .int .i64 t9), (26, .bool t27)] (n33 ?_)
    cases t27 with
    | true =>
      refine oT hF fun hF => ?_
      refine oG fun n35 => ?_
      refine W.draw (by kernel_rfl) (hc.ok w0) (plan := [0, 1, 2, 3, 4, 6, 7, 8, 9, 10, 11, 5, 12, 13, 14]) (by kernel_rfl) (by kernel_rfl) (by kernel_rfl) ?_
      refine WD.a 0 (some 28) t0 h_2 ?_
      obtain ⟨t29, e36, hF⟩ := obind_some hF
      refine WD.b 0 (some 29) t29 h_2 (field_ptr (P := Try.prog) (h := h_2) (s := 43) (f := 1) (by kernel_rfl) e36) ?_
      replace hF := obind_some hF; obtain ⟨v30, e37, hF⟩ := hF
      replace hF := obind_some hF; obtain ⟨t30, c38, hF⟩ := hF
      have c38 := avInt_some c38
      subst c38
      refine WD.b 1 (some 30) (.int .i64 t30) h_2 (load_cell (P := Try.prog) (h := h_2) (t := 3) (by kernel_rfl) e37) ?_
      obtain ⟨t31, e39, hF⟩ := obind_some hF
      refine WD.b 0 (some 31) t31 h_2 (field_ptr (P := Try.prog) (h := h_2) (s := 43) (f := 2) (by kernel_rfl) e39) ?_
      replace hF := obind_some hF; obtain ⟨v32, e40, hF⟩ := hF
      replace hF := obind_some hF; obtain ⟨t32, c41, hF⟩ := hF
      have c41 := avInt_some c41
      subst c41
      refine WD.b 1 (some 32) (.int .i64 t32) h_2 (load_cell (P := Try.prog) (h := h_2) (t := 3) (by kernel_rfl) e40) ?_
      refine WD.a 0 (some 34) t1 h_2 ?_
      obtain ⟨t35, e42, hF⟩ := obind_some hF
      refine WD.b 0 (some 35) t35 h_2 (field_ptr (P := Try.prog) (h := h_2) (s := 43) (f := 1) (by kernel_rfl) e42) ?_
      replace hF := obind_some hF; obtain ⟨v36, e43, hF⟩ := hF
      replace hF := obind_some hF; obtain ⟨t36, c44, hF⟩ := hF
      have c44 := avInt_some c44
      subst c44
      refine WD.b 1 (some 36) (.int .i64 t36) h_2 (load_cell (P := Try.prog) (h := h_2) (t := 3) (by kernel_rfl) e43) ?_
      obtain ⟨t37, e45, hF⟩ := obind_some hF
      refine WD.b 0 (some 37) t37 h_2 (field_ptr (P := Try.prog) (h := h_2) (s := 43) (f := 2) (by kernel_rfl) e45) ?_
      replace hF := obind_some hF; obtain ⟨v38, e46, hF⟩ := hF
      replace hF := obind_some hF; obtain ⟨t38, c47, hF⟩ := hF
      have c47 := avInt_some c47
      subst c47
      refine WD.b 1 (some 38) (.int .i64 t38) h_2 (load_cell (P := Try.prog) (h := h_2) (t := 3) (by kernel_rfl) e46) ?_
      refine WD.a 0 (some 39) (.agg ([.int .i64 2, .str 0 0, .int .i64 t38] : List AV)) h_2 ?_
      replace hF := callN_some hF; obtain ⟨r33, h_48, e49, hF⟩ := hF
      replace hF := obind_some hF; obtain ⟨t33, c50, hF⟩ := hF
      have c50 := avInt_some c50
      subst c50
      obtain ⟨k51, hF⟩ := chk_some hF
      refine WD.call (d := (some 33)) (by kernel_rfl) (by kernel_rfl) (by kernel_rfl) e49 (k := 2) (by kernel_rfl) (fun _ => (Eq.trans (by kernel_rfl) k51)) (by decide) ?_
      replace hF := callN_some hF; obtain ⟨r40, h_52, e53, hF⟩ := hF
      replace hF := obind_some hF; obtain ⟨t40, c54, hF⟩ := hF
      have c54 := avInt_some c54
      subst c54
      refine WD.call (d := (some 40)) (by kernel_rfl) (by kernel_rfl) (by kernel_rfl) e53 (k := 2) (by kernel_rfl) (fun _ => (by kernel_rfl)) (by decide) ?_
      obtain ⟨t41, e55, hF⟩ := lett_some hF
      refine WD.val (d := (some 41)) (v := .bool t41) (h' := h_52) (by kernel_rfl) (by kernel_rfl) (val_of AV.bool e55 (by kernel_rfl)) (k := 0) (by kernel_rfl) (fun e => absurd e (by decide)) (by decide) ?_
      refine WD.a 0 (some 6) (.bool t41) h_52 ?_
      refine WD.nil ?_
      refine gW [(6, .bool t41)] (n35 (oY (q9 (q4 ?_))))
      exact lZ hF [.tmp 6] [.bool t41] (rT res_nil)
    | false =>
      refine oU hF fun hF => ?_
      refine oG fun n56 => W.r ?_
      refine oB 43 hF fun t43 hF => ?_
      refine oA 42 (.bool t43) ?_
      refine oV [(0, t0), (1, t1), (5, v5), (9, .int .i64 t9), (42, .bool t43)] (n56 ?_)
      cases t43 with
      | true =>
        refine oT hF fun hF => ?_
        refine oG fun n58 => ?_
        refine W.draw (by kernel_rfl) (hc.ok w0) (plan := [0, 1, 2, 4, 5, 6, 7, 3, 8, 9, 10]) (by kernel_rfl) (by kernel_rfl) (by kernel_rfl) ?_
        refine WD.a 0 (some 44) t0 h_2 ?_
        obtain ⟨t45, e59, hF⟩ := obind_some hF
        refine WD.b 0 (some 45) t45 h_2 (field_ptr (P := Try.prog) (h := h_2) (s := 43) (f := 1) (by kernel_rfl) e59) ?_
        replace hF := obind_some hF; obtain ⟨v46, e60, hF⟩ := hF
        replace hF := obind_some hF; obtain ⟨t46, c61, hF⟩ := hF
        have c61 := avInt_some c61
        subst c61
        refine WD.b 1 (some 46) (.int .i64 t46) h_2 (load_cell (P := Try.prog) (h := h_2) (t := 3) (by kernel_rfl) e60) ?_
        refine WD.a 0 (some 48) t1 h_2 ?_
        obtain ⟨t49, e62, hF⟩ := obind_some hF
        refine WD.b 0 (some 49) t49 h_2 (field_ptr (P := Try.prog) (h := h_2) (s := 43) (f := 1) (by kernel_rfl) e62) ?_
        replace hF := obind_some hF; obtain ⟨v50, e63, hF⟩ := hF
        replace hF := obind_some hF; obtain ⟨t50, c64, hF⟩ := hF
        have c64 := avInt_some c64
        subst c64
        refine WD.b 1 (some 50) (.int .i64 t50) h_2 (load_cell (P := Try.prog) (h := h_2) (t := 3) (by kernel_rfl) e63) ?_
        refine WD.a 0 (some 51) (.agg ([.int .i64 3, .str 0 0, .int .i64 0] : List AV)) h_2 ?_
        replace hF := callN_some hF; obtain ⟨r47, h_65, e66, hF⟩ := hF
        replace hF := obind_some hF; obtain ⟨t47, c67, hF⟩ := hF
        have c67 := avInt_some c67
        subst c67
        obtain ⟨k68, hF⟩ := chk_some hF
        refine WD.call (d := (some 47)) (by kernel_rfl) (by kernel_rfl) (by kernel_rfl) e66 (k := 2) (by kernel_rfl) (fun _ => (Eq.trans (by kernel_rfl) k68)) (by decide) ?_
        replace hF := callN_some hF; obtain ⟨r52, h_69, e70, hF⟩ := hF
        replace hF := obind_some hF; obtain ⟨t52, c71, hF⟩ := hF
        have c71 := avInt_some c71
        subst c71
        refine WD.call (d := (some 52)) (by kernel_rfl) (by kernel_rfl) (by kernel_rfl) e70 (k := 2) (by kernel_rfl) (fun _ => (by kernel_rfl)) (by decide) ?_
        obtain ⟨t53, e72, hF⟩ := lett_some hF
        refine WD.val (d := (some 53)) (v := .bool t53) (h' := h_69) (by kernel_rfl) (by kernel_rfl) (val_of AV.bool e72 (by kernel_rfl)) (k := 0) (by kernel_rfl) (fun e => absurd e (by decide)) (by decide) ?_
        refine WD.a 0 (some 6) (.bool t53) h_69 ?_
        refine WD.nil ?_
        refine gW [(6, .bool t53)] (n58 (oY (q9 (q4 ?_))))
        exact lZ hF [.tmp 6] [.bool t53] (rT res_nil)
      | false =>
        refine oU hF fun hF => ?_
        refine oG fun n73 => W.r ?_
        refine oB 55 hF fun t55 hF => ?_
        refine oA 54 (.bool t55) ?_
        refine oV [(0, t0), (1, t1), (5, v5), (9, .int .i64 t9), (54, .bool t55)] (n73 ?_)
        cases t55 with
        | true =>
          refine oT hF fun hF => ?_
          refine oG fun n75 => ?_
          refine W.draw (by kernel_rfl) (hc.ok w0) (plan := [0, 1, 2, 4, 5, 6, 3, 7, 8, 9]) (by kernel_rfl) (by kernel_rfl) (by kernel_rfl) ?_
          refine WD.a 0 (some 56) t0 h_2 ?_
          obtain ⟨t57, e76, hF⟩ := obind_some hF
          refine WD.b 0 (some 57) t57 h_2 (field_ptr (P := Try.prog) (h := h_2) (s := 43) (f := 1) (by kernel_rfl) e76) ?_
          replace hF := obind_some hF; obtain ⟨v58, e77, hF⟩ := hF
          replace hF := obind_some hF; obtain ⟨t58, c78, hF⟩ := hF
          have c78 := avInt_some c78
          subst c78
          refine WD.b 1 (some 58) (.int .i64 t58) h_2 (load_cell (P := Try.prog) (h := h_2) (t := 3) (by kernel_rfl) e77) ?_
          refine WD.a 0 (some 60) t1 h_2 ?_
          obtain ⟨t61, e79, hF⟩ := obind_some hF
          refine WD.b 0 (some 61) t61 h_2 (field_ptr (P := Try.prog) (h := h_2) (s := 43) (f := 1) (by kernel_rfl) e79) ?_
          replace hF := obind_some hF; obtain ⟨v62, e80, hF⟩ := hF
          replace hF := obind_some hF; obtain ⟨t62, c81, hF⟩ := hF
          have c81 := avInt_some c81
          subst c81
          refine WD.b 1 (some 62) (.int .i64 t62) h_2 (load_cell (P := Try.prog) (h := h_2) (t := 3) (by kernel_rfl) e80) ?_
          replace hF := callN_some hF; obtain ⟨r59, h_82, e83, hF⟩ := hF
          replace hF := obind_some hF; obtain ⟨t59, c84, hF⟩ := hF
          have c84 := avInt_some c84
          subst c84
          obtain ⟨k85, hF⟩ := chk_some hF
          refine WD.call (d := (some 59)) (by kernel_rfl) (by kernel_rfl) (by kernel_rfl) e83 (k := 2) (by kernel_rfl) (fun _ => (Eq.trans (by kernel_rfl) k85)) (by decide) ?_
          replace hF := callN_some hF; obtain ⟨r63, h_86, e87, hF⟩ := hF
          replace hF := obind_some hF; obtain ⟨t63, c88, hF⟩ := hF
          have c88 := avInt_some c88
          subst c88
          refine WD.call (d := (some 63)) (by kernel_rfl) (by kernel_rfl) (by kernel_rfl) e87 (k := 2) (by kernel_rfl) (fun _ => (by kernel_rfl)) (by decide) ?_
          obtain ⟨t64, e89, hF⟩ := lett_some hF
          refine WD.val (d := (some 64)) (v := .bool t64) (h' := h_86) (by kernel_rfl) (by kernel_rfl) (val_of AV.bool e89 (by kernel_rfl)) (k := 0) (by kernel_rfl) (fun e => absurd e (by decide)) (by decide) ?_
          refine WD.a 0 (some 6) (.bool t64) h_86 ?_
          refine WD.nil ?_
          refine gW [(6, .bool t64)] (n75 (oY (q9 (q4 ?_))))
          exact lZ hF [.tmp 6] [.bool t64] (rT res_nil)
        | false =>
          refine oU hF fun hF => ?_
          refine oG fun n90 => W.r ?_
          refine oB 66 hF fun t66 hF => ?_
          refine oA 65 (.bool t66) ?_
          refine oV [(0, t0), (1, t1), (5, v5), (65, .bool t66)] (n90 ?_)
          cases t66 with
          | true =>
            refine oT hF fun hF => ?_
            refine oG fun n92 => W.r ?_
            refine oA 67 t1 ?_
            refine oF 68 43 2 hF fun t68 hF => ?_
            refine oLi 69 3 hF fun t69 hF => ?_
            refine oI 70 .i64 hF fun t70 hF => ?_
            refine oC0 71 hF fun t71 hF => ?_
            refine oF 72 76 1 hF fun t72 hF => ?_
            refine oW 3 (.int .i64 t70) hF fun h_99 hF => ?_
            refine oV [(0, t0), (5, v5)] (n92 ?_)
            refine oG fun n101 => W.r ?_
            refine oA 73 t0 ?_
            refine oF 74 43 2 hF fun t74 hF => ?_
            refine oLi 75 3 hF fun t75 hF => ?_
            refine oCi hc 76 hF fun t76 h_105 hF => ?_
            refine oB 77 hF fun t77 hF => ?_
            refine oA 6 (.bool t77) ?_
            refine oV [(6, .bool t77)] (n101 (oY (q9 (q4 ?_))))
            exact lZ hF [.tmp 6] [.bool t77] (rT res_nil)
          | false =>
            refine oU hF fun hF => ?_
            refine oZ (n9 (n4 ?_))
            refine oG fun n109 => W.r ?_
            refine oF 78 43 4 hF fun t78 hF => ?_
            refine oL 79 34 hF fun v79 hF => ?_
            refine oC hc (some 80) hF fun r80 h_112 hF => ?_
            refine oA 7 r80 ?_
            refine oV [(0, t0), (1, t1), (5, v5), (7, r80)] (n109 ?_)
            refine oG fun n114 => W.r ?_
            refine oA 81 t1 ?_
            refine oF 82 43 4 hF fun t82 hF => ?_
            refine oL 83 34 hF fun v83 hF => ?_
            refine oF 84 43 2 hF fun t84 hF => ?_
            refine oLi 85 3 hF fun t85 hF => ?_
            refine oC hc (some 86) hF fun r86 h_120 hF => ?_
            refine oV [(0, t0), (5, v5), (7, r80)] (n114 ?_)
            refine W.s (fun K122 n122 e122 q122 p122 => ?_)
            refine W.r ?_
            refine oA 87 t0 ?_
            refine oA 88 r80 ?_
            refine oF 89 43 2 hF fun t89 hF => ?_
            refine oLi 90 3 hF fun t90 hF => ?_
            refine oCi hc 91 hF fun t91 h_126 hF => ?_
            refine oB 92 hF fun t92 hF => ?_
            refine oA 93 (.bool t92) ?_
            obtain ⟨j98, e131, hF⟩ := lett_some hF
            have J132 : ∀ (t98 : Bool) (h_130 : AHeap), j98 t98 h_130 = some (rR, hR) → WL Try.prog w0 m0 (Func.ntmps Try.f25) (Code.ops (Code.p1 (Code.p2 (Code.p2 (Code.p2 (Code.p2 (codeOf Try.f25))))))) 12 K122 [(98, .bool t98)] [] h_130 := by
              intro t98 h_130 hF
              rw [e131] at hF
              refine oA 6 (.bool t98) ?_
              refine oV [(6, .bool t98)] (n122 (oY ?_))
              exact lZ hF [.tmp 6] [.bool t98] (rT res_nil)
            cases t92 with
            | true =>
              replace hF := ifB_t hF
              refine oA 94 r80 ?_
              refine oF 95 43 4 hF fun t95 hF => ?_
              refine oL 96 34 hF fun v96 hF => ?_
              refine oCb hc 97 hF fun t97 h_135 hF => ?_
              refine oA 98 (.bool t97) ?_
              exact lW _ (J132 _ _ hF)
            | false =>
              replace hF := ifB_f hF
              refine WL.o (some 94) ?_
              refine WL.o (some 95) ?_
              refine WL.o (some 96) ?_
              refine WL.o (some 97) ?_
              refine oA 98 (.bool false) ?_
              exact lW _ (J132 _ _ hF)
noncomputable def law04_alike_L0b (call : CallF) (t0 : AV) (t1 : AV) (k6 : AV → AHeap → R) (self : AV → Int → AHeap → R) (t5_36 : AV) (t6 : Int) (h_37 : AHeap) : R :=
  lett (decide (t6 ≤ 32)) fun (t14 : Bool) =>
  ifB t14
  (
    lett (fun (t5_44 : AV) (h_45 : AHeap) =>
      lett (IntKind.i64.wrap (t6 + 1)) fun (t16 : Int) =>
      self t5_44 t16 h_45) fun k43 =>
    callN (call 11 [t0, .int .i64 t6] h_37) fun r20 h_48 =>
    obind (extT 0 r20) fun v21 =>
    obind (avStr v21) fun t21 =>
    obind (extT 1 r20) fun v22 =>
    obind (avInt .i64 v22) fun t22 =>
    callN (call 40 [t1, .int .i64 t6] h_48) fun r26 h_55 =>
    obind (extT 0 r26) fun v27 =>
    obind (avStr v27) fun t27 =>
    obind (extT 1 r26) fun v28 =>
    obind (avInt .i64 v28) fun t28 =>
    lett (!eqS t21 t27) fun (t31 : Bool) =>
    lett (fun (t36 : Bool) (h_64 : AHeap) =>
      ifB t36
      (
        some (.ret (.bool false), h_64))
      (
        lett (decide (t6 < 0)) fun (t38 : Bool) =>
        lett (fun (t42 : Bool) (h_71 : AHeap) =>
          ifB t42
          (
            k43 t5_36 h_71)
          (
            callN (call 41 [t1, .int .i64 t6] h_71) fun r45 h_76 =>
            obind (avAgg r45) fun t45 =>
            obind (partF 0 t45) fun v46 =>
            obind (avBool v46) fun t46 =>
            lett (fun (t5_82 : AV) (h_83 : AHeap) =>
              callN (call 12 [t0, .int .i64 t6] h_83) fun r54 h_85 =>
              obind (extT 0 r54) fun v55 =>
              obind (avStr v55) fun t55 =>
              obind (extT 1 r54) fun v56 =>
              obind (avBool v56) fun t56 =>
              lett (fun (t92 : Bool) (h_93 : AHeap) =>
                ifB t92
                (
                  some (.ret (.bool false), h_93))
                (
                  k43 t5_82 h_93)) fun k92 =>
              obind (nilC t1) fun t62 =>
              obind (fldP 0 t62) fun t63 =>
              obind (idxA 32 3 t63 t6) fun t64 =>
              obind (fldP 2 t64) fun t65 =>
              obind (ldCell h_85 t65) fun v66 =>
              obind (lenL v66) fun t67 =>
              callN (call 13 [t0, .int .i64 t6] h_85) fun r59 h_101 =>
              obind (avInt .i64 r59) fun t59 =>
              chk (reLoad Try.prog h_101 71 t65 v66 && true) <|
              lett ((t59 : Int) != t67) fun (t68 : Bool) =>
              ifB t68
              (
                k92 true h_101)
              (
                obind (nilC t1) fun t73 =>
                obind (fldP 0 t73) fun t74 =>
                obind (idxA 32 3 t74 t6) fun t75 =>
                obind (fldP 0 t75) fun t76 =>
                obind (fldP 1 t76) fun t77 =>
                obind (ldCell h_101 t77) fun v78 =>
                obind (avStr v78) fun t78 =>
                lett (!eqS t55 t78) fun (t79 : Bool) =>
                ifB t79
                (
                  k92 true h_101)
                (
                  obind (nilC t1) fun t85 =>
                  obind (fldP 0 t85) fun t86 =>
                  obind (idxA 32 3 t86 t6) fun t87 =>
                  obind (fldP 0 t87) fun t88 =>
                  obind (fldP 0 t88) fun t89 =>
                  obind (ldCell h_101 t89) fun v90 =>
                  obind (avBool v90) fun t90 =>
                  lett (!((t56 : Bool) == t90)) fun (t91 : Bool) =>
                  k92 t91 h_101))) fun k81 =>
            ifB t46
            (
              outK (bldSl Try.prog h_76 34 1 [(0, .int .i64 t6)]) fun v49 h_122 =>
              outK (opAppend Try.prog h_122 34 34 t5_36 v49) fun v50 h_124 =>
              k81 v50 h_124)
            (
              k81 t5_36 h_76))) fun j42 =>
        ifB t38
        (
          j42 true h_64)
        (
          lett ((t6 : Int) == 32) fun (t41 : Bool) =>
          j42 t41 h_64))) fun j36 =>
    ifB t31
    (
      j36 true h_55)
    (
      lett ((t22 : Int) != t28) fun (t35 : Bool) =>
      j36 t35 h_55))
  (
    k6 t5_36 h_37)
noncomputable def law04_alike_L0 (call : CallF) (t0 : AV) (t1 : AV) (k6 : AV → AHeap → R) : Nat → AV → Int → AHeap → R := iterR (fun _ _ _ => none) (law04_alike_L0b call t0 t1 k6)
theorem law04_alike_L0_s (call : CallF) (t0 : AV) (t1 : AV) (k6 : AV → AHeap → R) (m : Nat) : law04_alike_L0 call t0 t1 k6 (m + 1) = law04_alike_L0b call t0 t1 k6 (law04_alike_L0 call t0 t1 k6 m) := rfl
noncomputable def law04_alike (call : CallF) (n : Nat) (t0 : AV) (t1 : AV) (h : AHeap) : R :=
  lett (fun (t5 : AV) (h_7 : AHeap) =>
    lett (fun (t4 : Bool) (h_10 : AHeap) =>
      some (.ret (.bool t4), h_10)) fun k9 =>
    callN (call 20 [t0] h_7) fun r94 h_11 =>
    callN (call 39 [r94, t5] h_11) fun r96 h_13 =>
    obind (avBool r96) fun t96 =>
    ifB t96
    (
      obind (nilC t1) fun t101 =>
      obind (fldP 96 t101) fun t102 =>
      obind (ldCell h_13 t102) fun v103 =>
      obind (avInt .i64 v103) fun t103 =>
      lett ((t103 : Int) != 0) fun (t104 : Bool) =>
      callN (call 18 [t0] h_13) fun r99 h_21 =>
      obind (avBool r99) fun t99 =>
      chk (reLoad Try.prog h_21 3 t102 (.int .i64 t103) && true) <|
      lett ((t99 : Bool) == t104) fun (t105 : Bool) =>
      ifB t105
      (
        obind (nilC t1) fun t111 =>
        obind (fldP 97 t111) fun t112 =>
        obind (ldCell h_21 t112) fun v113 =>
        obind (avInt .i64 v113) fun t113 =>
        callN (call 19 [t0] h_21) fun r109 h_30 =>
        obind (avInt .i64 r109) fun t109 =>
        chk (reLoad Try.prog h_30 3 t112 (.int .i64 t113) && (true && true)) <|
        lett ((t109 : Int) == t113) fun (t114 : Bool) =>
        k9 t114 h_30)
      (
        k9 false h_21))
    (
      k9 false h_13)) fun k6 =>
  law04_alike_L0 call t0 t1 k6 n AV.nsl (-1) h
set_option maxHeartbeats 4000000 in
set_option maxRecDepth 20000 in
theorem law04_alike_ok {call : CallF} (hc : SaysAll Try.prog call) {n : Nat} {t0 : AV} {t1 : AV} {h : AHeap} {rR : ARes} {hR : AHeap} (hF : law04_alike call n t0 t1 h = some (rR, hR)) : Says Try.prog 26 [t0, t1] h rR hR := by
  unfold law04_alike at hF
  refine sO Try.func26 fun w0 m0 => ?_
  refine wW [(0, t0), (1, t1)] ?_
  refine oG fun n1 => W.r ?_
  refine oA 4 (.bool false) ?_
  refine oV [(0, t0), (1, t1)] (n1 ?_)
  refine oG fun n2 => W.r ?_
  refine oA 5 AV.nsl ?_
  refine oV [(0, t0), (1, t1), (5, AV.nsl)] (n2 ?_)
  refine W.s (fun K3 n3 e3 q3 p3 => ?_)
  refine oG fun n4 => W.r ?_
  refine oA 6 (.int .i64 (-1)) ?_
  refine oV [(0, t0), (1, t1), (5, AV.nsl), (6, .int .i64 (-1))] (n4 ?_)
  obtain ⟨k6, e6, hF⟩ := lett_some hF
  have J6 : ∀ (t5 : AV) (h_7 : AHeap), k6 t5 h_7 = some (rR, hR) → Go w0 m0 (Func.ntmps Try.f26) (K3 .normal) [(0, t0), (1, t1), (5, t5)] [] h_7 := by
    intro t5 h_7 hF
    rw [e6] at hF
    refine n3 ?_
    refine W.s (fun K8 n8 e8 q8 p8 => ?_)
    obtain ⟨k9, e9, hF⟩ := lett_some hF
    have J9 : ∀ (t4 : Bool) (h_10 : AHeap), k9 t4 h_10 = some (rR, hR) → Go w0 m0 (Func.ntmps Try.f26) (K8 .normal) [(4, .bool t4)] [] h_10 := by
      intro t4 h_10 hF
      rw [e9] at hF
      refine n8 (oY ?_)
      exact lZ hF [.tmp 4] [.bool t4] (rT res_nil)
    refine W.draw (by kernel_rfl) (hc.ok w0) (plan := [0, 2, 1, 3, 4, 5, 7, 8, 9, 10, 11, 6, 12, 13, 14, 15, 17, 18, 19, 20, 16, 21, 22, 23]) (by kernel_rfl) (by kernel_rfl) (by kernel_rfl) ?_
    refine WD.a 0 (some 93) t0 h_7 ?_
    refine WD.a 0 (some 95) t5 h_7 ?_
    obtain ⟨r94, h_11, e12, hF⟩ := callN_some hF
    refine WD.call (d := (some 94)) (by kernel_rfl) (by kernel_rfl) (by kernel_rfl) e12 (k := 2) (by kernel_rfl) (fun _ => (by kernel_rfl)) (by decide) ?_
    replace hF := callN_some hF; obtain ⟨r96, h_13, e14, hF⟩ := hF
    replace hF := obind_some hF; obtain ⟨t96, c15, hF⟩ := hF
    have c15 := avBool_some c15
    subst c15
    refine WD.call (d := (some 96)) (by kernel_rfl) (by kernel_rfl) (by kernel_rfl) e14 (k := 2) (by kernel_rfl) (fun _ => (by kernel_rfl)) (by decide) ?_
    refine WD.a 0 (some 97) (.bool t96) h_13 ?_
    cases t96 with
    | true =>
      replace hF := ifB_t hF
      refine WD.a 0 (some 98) t0 h_13 ?_
      refine WD.a 0 (some 100) t1 h_13 ?_
      obtain ⟨t101, e16, hF⟩ := obind_some hF
      refine WD.b 0 (some 101) t101 h_13 (nil_chk (h := h_13) e16) ?_
      obtain ⟨t102, e17, hF⟩ := obind_some hF
      refine WD.b 0 (some 102) t102 h_13 (field_ptr (P := Try.prog) (h := h_13) (s := 76) (f := 1) (by kernel_rfl) e17) ?_
      replace hF := obind_some hF; obtain ⟨v103, e18, hF⟩ := hF
      replace hF := obind_some hF; obtain ⟨t103, c19, hF⟩ := hF
      have c19 := avInt_some c19
      subst c19
      refine WD.b 1 (some 103) (.int .i64 t103) h_13 (load_cell (P := Try.prog) (h := h_13) (t := 3) (by kernel_rfl) e18) ?_
      obtain ⟨t104, e20, hF⟩ := lett_some hF
      refine WD.val (d := (some 104)) (v := .bool t104) (h' := h_13) (by kernel_rfl) (by kernel_rfl) (val_of AV.bool e20 (by kernel_rfl)) (k := 0) (by kernel_rfl) (fun e => absurd e (by decide)) (by decide) ?_
      replace hF := callN_some hF; obtain ⟨r99, h_21, e22, hF⟩ := hF
      replace hF := obind_some hF; obtain ⟨t99, c23, hF⟩ := hF
      have c23 := avBool_some c23
      subst c23
      obtain ⟨k24, hF⟩ := chk_some hF
      refine WD.call (d := (some 99)) (by kernel_rfl) (by kernel_rfl) (by kernel_rfl) e22 (k := 2) (by kernel_rfl) (fun _ => (Eq.trans (by kernel_rfl) k24)) (by decide) ?_
      obtain ⟨t105, e25, hF⟩ := lett_some hF
      refine WD.val (d := (some 105)) (v := .bool t105) (h' := h_21) (by kernel_rfl) (by kernel_rfl) (val_of AV.bool e25 (by kernel_rfl)) (k := 0) (by kernel_rfl) (fun e => absurd e (by decide)) (by decide) ?_
      refine WD.a 0 (some 106) (.bool t105) h_21 ?_
      refine WD.a 0 (some 107) (.bool t105) h_21 ?_
      cases t105 with
      | true =>
        replace hF := ifB_t hF
        refine WD.a 0 (some 108) t0 h_21 ?_
        refine WD.a 0 (some 110) t1 h_21 ?_
        obtain ⟨t111, e26, hF⟩ := obind_some hF
        refine WD.b 0 (some 111) t111 h_21 (nil_chk (h := h_21) e26) ?_
        obtain ⟨t112, e27, hF⟩ := obind_some hF
        refine WD.b 0 (some 112) t112 h_21 (field_ptr (P := Try.prog) (h := h_21) (s := 76) (f := 2) (by kernel_rfl) e27) ?_
        replace hF := obind_some hF; obtain ⟨v113, e28, hF⟩ := hF
        replace hF := obind_some hF; obtain ⟨t113, c29, hF⟩ := hF
        have c29 := avInt_some c29
        subst c29
        refine WD.b 1 (some 113) (.int .i64 t113) h_21 (load_cell (P := Try.prog) (h := h_21) (t := 3) (by kernel_rfl) e28) ?_
        replace hF := callN_some hF; obtain ⟨r109, h_30, e31, hF⟩ := hF
        replace hF := obind_some hF; obtain ⟨t109, c32, hF⟩ := hF
        have c32 := avInt_some c32
        subst c32
        obtain ⟨k33, hF⟩ := chk_some hF
        refine WD.call (d := (some 109)) (by kernel_rfl) (by kernel_rfl) (by kernel_rfl) e31 (k := 2) (by kernel_rfl) (fun _ => (Eq.trans (by kernel_rfl) k33)) (by decide) ?_
        obtain ⟨t114, e34, hF⟩ := lett_some hF
        refine WD.val (d := (some 114)) (v := .bool t114) (h' := h_30) (by kernel_rfl) (by kernel_rfl) (val_of AV.bool e34 (by kernel_rfl)) (k := 0) (by kernel_rfl) (fun e => absurd e (by decide)) (by decide) ?_
        refine WD.a 0 (some 115) (.bool t114) h_30 ?_
        refine WD.a 0 (some 4) (.bool t114) h_30 ?_
        refine WD.nil ?_
        exact gW _ (J9 _ _ hF)
      | false =>
        replace hF := ifB_f hF
        refine oD 0 (some 108) ?_
        refine oD 0 (some 110) ?_
        refine oD 0 (some 111) ?_
        refine oD 0 (some 112) ?_
        refine oD 1 (some 113) ?_
        refine WD.not (d := (some 109)) (by kernel_rfl) (by kernel_rfl) (k := 2) (by kernel_rfl) (fun _ => (by kernel_rfl)) (by decide) ?_
        refine oD 0 (some 114) ?_
        refine WD.a 0 (some 115) (.bool false) h_21 ?_
        refine WD.a 0 (some 4) (.bool false) h_21 ?_
        refine WD.nil ?_
        exact gW _ (J9 _ _ hF)
    | false =>
      replace hF := ifB_f hF
      refine oD 0 (some 98) ?_
      refine oD 0 (some 100) ?_
      refine oD 0 (some 101) ?_
      refine oD 0 (some 102) ?_
      refine oD 1 (some 103) ?_
      refine oD 0 (some 104) ?_
      refine WD.not (d := (some 99)) (by kernel_rfl) (by kernel_rfl) (k := 2) (by kernel_rfl) (fun _ => (by kernel_rfl)) (by decide) ?_
      refine oD 0 (some 105) ?_
      refine WD.a 0 (some 106) (.bool false) h_13 ?_
      refine WD.a 0 (some 107) (.bool false) h_13 ?_
      refine oD 0 (some 108) ?_
      refine oD 0 (some 110) ?_
      refine oD 0 (some 111) ?_
      refine oD 0 (some 112) ?_
      refine oD 1 (some 113) ?_
      refine WD.not (d := (some 109)) (by kernel_rfl) (by kernel_rfl) (k := 2) (by kernel_rfl) (fun _ => (by kernel_rfl)) (by decide) ?_
      refine oD 0 (some 114) ?_
      refine WD.a 0 (some 115) (.bool false) h_13 ?_
      refine WD.a 0 (some 4) (.bool false) h_13 ?_
      refine WD.nil ?_
      exact gW _ (J9 _ _ hF)
  refine W.blockK (by kernel_rfl) (fun K5 n5 s5 o5 q5 p5 => ?_)
  refine W.loopK (by kernel_rfl) (fun I35 K35 b35 n35 e35 q35 p35 => ?_)
  have L35 : ∀ (m : Nat) (t5_36 : AV) (t6 : Int) (h_37 : AHeap), law04_alike_L0 call t0 t1 k6 m t5_36 t6 h_37 = some (rR, hR) → Go w0 m0 (Func.ntmps Try.f26) I35 [(0, t0), (1, t1), (5, t5_36), (6, .int .i64 t6)] [] h_37 := by
    intro m
    induction m with
    | zero => intro t5_36 t6 h_37 hF; cases hF
    | succ m ih35 =>
      intro t5_36 t6 h_37 hF
      rw [law04_alike_L0_s] at hF; unfold law04_alike_L0b at hF
      refine b35 ?_
      refine W.s (fun K38 n38 e38 q38 p38 => ?_)
      refine oG fun n39 => W.r ?_
      refine oA 13 (.int .i64 t6) ?_
      refine oB 14 hF fun t14 hF => ?_
      refine oV [(0, t0), (1, t1), (5, t5_36), (6, .int .i64 t6), (14, .bool t14)] (n39 ?_)
      cases t14 with
      | true =>
        refine oT hF fun hF => ?_
        refine oZ (n38 ?_)
        refine W.s (fun K41 n41 e41 q41 p41 => ?_)
        obtain ⟨k43, e43, hF⟩ := lett_some hF
        have J43 : ∀ (t5_44 : AV) (h_45 : AHeap), k43 t5_44 h_45 = some (rR, hR) → Go w0 m0 (Func.ntmps Try.f26) (K41 .normal) [(0, t0), (1, t1), (5, t5_44), (6, .int .i64 t6)] [] h_45 := by
          intro t5_44 h_45 hF
          rw [e43] at hF
          refine n41 (W.r ?_)
          refine oA 15 (.int .i64 t6) ?_
          refine oI 16 .i64 hF fun t16 hF => ?_
          refine oA 6 (.int .i64 t16) ?_
          refine oV [(0, t0), (1, t1), (5, t5_44), (6, .int .i64 t16)] (n35 ?_)
          exact gW _ (ih35 _ _ _ hF)
        refine W.blockK (by kernel_rfl) (fun K42 n42 s42 o42 q42 p42 => ?_)
        refine oG fun n47 => W.r ?_
        refine oA 18 t0 ?_
        refine oA 19 (.int .i64 t6) ?_
        refine oC hc (some 20) hF fun r20 h_48 hF => ?_
        refine oA 17 r20 ?_
        refine oEs 21 hF fun t21 hF => ?_
        refine oEi 22 hF fun t22 hF => ?_
        refine oA 7 (strA t21) ?_
        refine oA 8 (.int .i64 t22) ?_
        refine oV [(0, t0), (1, t1), (5, t5_36), (6, .int .i64 t6), (7, strA t21), (8, .int .i64 t22)] (n47 ?_)
        refine oG fun n54 => W.r ?_
        refine oA 24 t1 ?_
        refine oA 25 (.int .i64 t6) ?_
        refine oC hc (some 26) hF fun r26 h_55 hF => ?_
        refine oA 23 r26 ?_
        refine oEs 27 hF fun t27 hF => ?_
        refine oEi 28 hF fun t28 hF => ?_
        refine oA 9 (strA t27) ?_
        refine oA 10 (.int .i64 t28) ?_
        refine oV [(0, t0), (1, t1), (5, t5_36), (6, .int .i64 t6), (7, strA t21), (8, .int .i64 t22), (9, strA t27), (10, .int .i64 t28)] (n54 ?_)
        refine oH fun n61 q61 => ?_
        refine W.s (fun K62 n62 e62 q62 p62 => ?_)
        refine W.r ?_
        refine oA 29 (strA t21) ?_
        refine oA 30 (strA t27) ?_
        refine oB 31 hF fun t31 hF => ?_
        refine oA 32 (.bool t31) ?_
        obtain ⟨j36, e65, hF⟩ := lett_some hF
        have J66 : ∀ (t36 : Bool) (h_64 : AHeap), j36 t36 h_64 = some (rR, hR) → WL Try.prog w0 m0 (Func.ntmps Try.f26) (Code.ops (Code.p1 (Code.p1 (Code.p2 (Code.p2 (Code.p1 (Code.p1 (Code.p2 (Code.p1 (Code.p1 (Code.p2 (Code.p1 (Code.p2 (Code.p2 (codeOf Try.f26))))))))))))))) 8 K62 [(0, t0), (1, t1), (5, t5_36), (6, .int .i64 t6), (36, .bool t36)] [] h_64 := by
          intro t36 h_64 hF
          rw [e65] at hF
          refine oV [(0, t0), (1, t1), (5, t5_36), (6, .int .i64 t6), (36, .bool t36)] (n62 ?_)
          cases t36 with
          | true =>
            refine oT hF fun hF => ?_
            refine oG fun n67 => W.r ?_
            refine oA 4 (.bool false) ?_
            refine oV [(4, .bool false)] (n67 (oY (q61 (q42 (q41 (q35 (q5 (q3 ?_))))))))
            exact lZ hF [.tmp 4] [.bool false] (rT res_nil)
          | false =>
            refine oU hF fun hF => ?_
            refine oZ (n61 ?_)
            refine W.s (fun K68 n68 e68 q68 p68 => ?_)
            refine W.s (fun K69 n69 e69 q69 p69 => ?_)
            refine W.r ?_
            refine oA 37 (.int .i64 t6) ?_
            refine oB 38 hF fun t38 hF => ?_
            refine oA 39 (.bool t38) ?_
            obtain ⟨j42, e72, hF⟩ := lett_some hF
            have J73 : ∀ (t42 : Bool) (h_71 : AHeap), j42 t42 h_71 = some (rR, hR) → WL Try.prog w0 m0 (Func.ntmps Try.f26) (Code.ops (Code.p1 (Code.p1 (Code.p2 (Code.p2 (Code.p2 (Code.p1 (Code.p1 (Code.p2 (Code.p1 (Code.p1 (Code.p2 (Code.p1 (Code.p2 (Code.p2 (codeOf Try.f26)))))))))))))))) 6 K69 [(0, t0), (1, t1), (5, t5_36), (6, .int .i64 t6), (42, .bool t42)] [] h_71 := by
              intro t42 h_71 hF
              rw [e72] at hF
              refine oV [(0, t0), (1, t1), (5, t5_36), (6, .int .i64 t6), (42, .bool t42)] (n69 ?_)
              cases t42 with
              | true =>
                refine oT hF fun hF => ?_
                refine W.exit (by kernel_rfl) ?_
                refine e68 ?_
                refine s42 (by kernel_rfl) ?_
                exact gW _ (J43 _ _ hF)
              | false =>
                refine oU hF fun hF => ?_
                refine oZ (n68 ?_)
                refine W.s (fun K74 n74 e74 q74 p74 => ?_)
                refine oG fun n75 => W.r ?_
                refine oA 43 t1 ?_
                refine oA 44 (.int .i64 t6) ?_
                refine oCa hc 45 hF fun t45 h_76 hF => ?_
                replace hF := obind_some hF; obtain ⟨v46, e79, hF⟩ := hF
                replace hF := obind_some hF; obtain ⟨t46, c80, hF⟩ := hF
                have c80 := avBool_some c80
                subst c80
                refine WL.b (some 46) (.bool t46) h_76 (field_one (P := Try.prog) (h := h_76) (t := 70) (f := 0) (by kernel_rfl) e79) ?_
                refine oV [(0, t0), (1, t1), (5, t5_36), (6, .int .i64 t6), (46, .bool t46)] (n75 ?_)
                obtain ⟨k81, e81, hF⟩ := lett_some hF
                have J81 : ∀ (t5_82 : AV) (h_83 : AHeap), k81 t5_82 h_83 = some (rR, hR) → Go w0 m0 (Func.ntmps Try.f26) (K74 .normal) [(0, t0), (1, t1), (5, t5_82), (6, .int .i64 t6)] [] h_83 := by
                  intro t5_82 h_83 hF
                  rw [e81] at hF
                  refine n74 ?_
                  refine oG fun n84 => W.r ?_
                  refine oA 52 t0 ?_
                  refine oA 53 (.int .i64 t6) ?_
                  refine oC hc (some 54) hF fun r54 h_85 hF => ?_
                  refine oA 51 r54 ?_
                  refine oEs 55 hF fun t55 hF => ?_
                  refine oEb 56 hF fun t56 hF => ?_
                  refine oA 11 (strA t55) ?_
                  refine oA 12 (.bool t56) ?_
                  refine oV [(0, t0), (1, t1), (5, t5_82), (6, .int .i64 t6), (11, strA t55), (12, .bool t56)] (n84 ?_)
                  refine W.s (fun K91 n91 e91 q91 p91 => ?_)
                  obtain ⟨k92, e92, hF⟩ := lett_some hF
                  have J92 : ∀ (t92 : Bool) (h_93 : AHeap), k92 t92 h_93 = some (rR, hR) → Go w0 m0 (Func.ntmps Try.f26) (K91 .normal) [(0, t0), (1, t1), (5, t5_82), (6, .int .i64 t6), (92, .bool t92)] [] h_93 := by
                    intro t92 h_93 hF
                    rw [e92] at hF
                    refine n91 ?_
                    cases t92 with
                    | true =>
                      refine oT hF fun hF => ?_
                      refine oG fun n94 => W.r ?_
                      refine oA 4 (.bool false) ?_
                      refine oV [(4, .bool false)] (n94 (oY (q42 (q41 (q35 (q5 (q3 ?_)))))))
                      exact lZ hF [.tmp 4] [.bool false] (rT res_nil)
                    | false =>
                      refine oU hF fun hF => ?_
                      refine oZ (n42 ?_)
                      exact gW _ (J43 _ _ hF)
                  refine W.draw (by kernel_rfl) (hc.ok w0) (plan := [0, 1, 3, 4, 5, 6, 7, 8, 9, 10, 2, 11, 12, 13, 14, 15, 16, 17, 18, 19, 20, 21, 22, 23, 24, 25, 26, 27, 28, 29, 30, 31, 32, 33, 34, 35]) (by kernel_rfl) (by kernel_rfl) (by kernel_rfl) ?_
                  refine WD.a 0 (some 57) t0 h_85 ?_
                  refine WD.a 0 (some 58) (.int .i64 t6) h_85 ?_
                  refine WD.a 0 (some 60) t1 h_85 ?_
                  refine WD.a 0 (some 61) (.int .i64 t6) h_85 ?_
                  obtain ⟨t62, e95, hF⟩ := obind_some hF
                  refine WD.b 0 (some 62) t62 h_85 (nil_chk (h := h_85) e95) ?_
                  obtain ⟨t63, e96, hF⟩ := obind_some hF
                  refine WD.b 0 (some 63) t63 h_85 (field_ptr (P := Try.prog) (h := h_85) (s := 76) (f := 0) (by kernel_rfl) e96) ?_
                  obtain ⟨t64, e97, hF⟩ := obind_some hF
                  refine WD.b 0 (some 64) t64 h_85 (index_arr (P := Try.prog) (h := h_85) (t := 74) (e' := 73) (k := .i64) (by kernel_rfl) (by kernel_rfl) (by kernel_rfl) e97) ?_
                  obtain ⟨t65, e98, hF⟩ := obind_some hF
                  refine WD.b 0 (some 65) t65 h_85 (field_ptr (P := Try.prog) (h := h_85) (s := 73) (f := 1) (by kernel_rfl) e98) ?_
                  obtain ⟨v66, e99, hF⟩ := obind_some hF
                  refine WD.b 1 (some 66) v66 h_85 (load_cell (P := Try.prog) (h := h_85) (t := 71) (by kernel_rfl) e99) ?_
                  obtain ⟨t67, e100, hF⟩ := obind_some hF
                  refine WD.b 0 (some 67) (.int .i64 t67) h_85 (len_row (P := Try.prog) (h := h_85) (t := 71) (e' := 79) (by kernel_rfl) e100) ?_
                  replace hF := callN_some hF; obtain ⟨r59, h_101, e102, hF⟩ := hF
                  replace hF := obind_some hF; obtain ⟨t59, c103, hF⟩ := hF
                  have c103 := avInt_some c103
                  subst c103
                  obtain ⟨k104, hF⟩ := chk_some hF
                  refine WD.call (d := (some 59)) (by kernel_rfl) (by kernel_rfl) (by kernel_rfl) e102 (k := 2) (by kernel_rfl) (fun _ => (Eq.trans (by kernel_rfl) k104)) (by decide) ?_
                  obtain ⟨t68, e105, hF⟩ := lett_some hF
                  refine WD.val (d := (some 68)) (v := .bool t68) (h' := h_101) (by kernel_rfl) (by kernel_rfl) (val_of AV.bool e105 (by kernel_rfl)) (k := 0) (by kernel_rfl) (fun e => absurd e (by decide)) (by decide) ?_
                  refine WD.a 0 (some 69) (.bool t68) h_101 ?_
                  cases t68 with
                  | true =>
                    replace hF := ifB_t hF
                    refine oD 0 (some 70) ?_
                    refine oD 0 (some 71) ?_
                    refine oD 0 (some 72) ?_
                    refine oD 0 (some 73) ?_
                    refine oD 0 (some 74) ?_
                    refine oD 0 (some 75) ?_
                    refine oD 0 (some 76) ?_
                    refine oD 0 (some 77) ?_
                    refine oD 1 (some 78) ?_
                    refine oD 0 (some 79) ?_
                    refine WD.a 0 (some 80) (.bool true) h_101 ?_
                    refine WD.a 0 (some 81) (.bool true) h_101 ?_
                    refine oD 0 (some 82) ?_
                    refine oD 0 (some 83) ?_
                    refine oD 0 (some 84) ?_
                    refine oD 0 (some 85) ?_
                    refine oD 0 (some 86) ?_
                    refine oD 0 (some 87) ?_
                    refine oD 0 (some 88) ?_
                    refine oD 0 (some 89) ?_
                    refine oD 1 (some 90) ?_
                    refine oD 0 (some 91) ?_
                    refine WD.a 0 (some 92) (.bool true) h_101 ?_
                    refine WD.nil ?_
                    exact gW _ (J92 _ _ hF)
                  | false =>
                    replace hF := ifB_f hF
                    refine WD.a 0 (some 70) (strA t55) h_101 ?_
                    refine WD.a 0 (some 71) t1 h_101 ?_
                    refine WD.a 0 (some 72) (.int .i64 t6) h_101 ?_
                    obtain ⟨t73, e106, hF⟩ := obind_some hF
                    refine WD.b 0 (some 73) t73 h_101 (nil_chk (h := h_101) e106) ?_
                    obtain ⟨t74, e107, hF⟩ := obind_some hF
                    refine WD.b 0 (some 74) t74 h_101 (field_ptr (P := Try.prog) (h := h_101) (s := 76) (f := 0) (by kernel_rfl) e107) ?_
                    obtain ⟨t75, e108, hF⟩ := obind_some hF
                    refine WD.b 0 (some 75) t75 h_101 (index_arr (P := Try.prog) (h := h_101) (t := 74) (e' := 73) (k := .i64) (by kernel_rfl) (by kernel_rfl) (by kernel_rfl) e108) ?_
                    obtain ⟨t76, e109, hF⟩ := obind_some hF
                    refine WD.b 0 (some 76) t76 h_101 (field_ptr (P := Try.prog) (h := h_101) (s := 73) (f := 0) (by kernel_rfl) e109) ?_
                    obtain ⟨t77, e110, hF⟩ := obind_some hF
                    refine WD.b 0 (some 77) t77 h_101 (field_ptr (P := Try.prog) (h := h_101) (s := 70) (f := 1) (by kernel_rfl) e110) ?_
                    replace hF := obind_some hF; obtain ⟨v78, e111, hF⟩ := hF
                    replace hF := obind_some hF; obtain ⟨t78, c112, hF⟩ := hF
                    have c112 := avStr_some c112
                    subst c112
                    refine WD.b 1 (some 78) (strA t78) h_101 (load_cell (P := Try.prog) (h := h_101) (t := 9) (by kernel_rfl) e111) ?_
                    obtain ⟨t79, e113, hF⟩ := lett_some hF
                    refine WD.val (d := (some 79)) (v := .bool t79) (h' := h_101) (by kernel_rfl) (by kernel_rfl) (val_of AV.bool e113 (by kernel_rfl)) (k := 0) (by kernel_rfl) (fun e => absurd e (by decide)) (by decide) ?_
                    refine WD.a 0 (some 80) (.bool t79) h_101 ?_
                    refine WD.a 0 (some 81) (.bool t79) h_101 ?_
                    cases t79 with
                    | true =>
                      replace hF := ifB_t hF
                      refine oD 0 (some 82) ?_
                      refine oD 0 (some 83) ?_
                      refine oD 0 (some 84) ?_
                      refine oD 0 (some 85) ?_
                      refine oD 0 (some 86) ?_
                      refine oD 0 (some 87) ?_
                      refine oD 0 (some 88) ?_
                      refine oD 0 (some 89) ?_
                      refine oD 1 (some 90) ?_
                      refine oD 0 (some 91) ?_
                      refine WD.a 0 (some 92) (.bool true) h_101 ?_
                      refine WD.nil ?_
                      exact gW _ (J92 _ _ hF)
                    | false =>
                      replace hF := ifB_f hF
                      refine WD.a 0 (some 82) (.bool t56) h_101 ?_
                      refine WD.a 0 (some 83) t1 h_101 ?_
                      refine WD.a 0 (some 84) (.int .i64 t6) h_101 ?_
                      obtain ⟨t85, e114, hF⟩ := obind_some hF
                      refine WD.b 0 (some 85) t85 h_101 (nil_chk (h := h_101) e114) ?_
                      obtain ⟨t86, e115, hF⟩ := obind_some hF
                      refine WD.b 0 (some 86) t86 h_101 (field_ptr (P := Try.prog) (h := h_101) (s := 76) (f := 0) (by kernel_rfl) e115) ?_
                      obtain ⟨t87, e116, hF⟩ := obind_some hF
                      refine WD.b 0 (some 87) t87 h_101 (index_arr (P := Try.prog) (h := h_101) (t := 74) (e' := 73) (k := .i64) (by kernel_rfl) (by kernel_rfl) (by kernel_rfl) e116) ?_
                      obtain ⟨t88, e117, hF⟩ := obind_some hF
                      refine WD.b 0 (some 88) t88 h_101 (field_ptr (P := Try.prog) (h := h_101) (s := 73) (f := 0) (by kernel_rfl) e117) ?_
                      obtain ⟨t89, e118, hF⟩ := obind_some hF
                      refine WD.b 0 (some 89) t89 h_101 (field_ptr (P := Try.prog) (h := h_101) (s := 70) (f := 0) (by kernel_rfl) e118) ?_
                      replace hF := obind_some hF; obtain ⟨v90, e119, hF⟩ := hF
                      replace hF := obind_some hF; obtain ⟨t90, c120, hF⟩ := hF
                      have c120 := avBool_some c120
                      subst c120
                      refine WD.b 1 (some 90) (.bool t90) h_101 (load_cell (P := Try.prog) (h := h_101) (t := 4) (by kernel_rfl) e119) ?_
                      obtain ⟨t91, e121, hF⟩ := lett_some hF
                      refine WD.val (d := (some 91)) (v := .bool t91) (h' := h_101) (by kernel_rfl) (by kernel_rfl) (val_of AV.bool e121 (by kernel_rfl)) (k := 0) (by kernel_rfl) (fun e => absurd e (by decide)) (by decide) ?_
                      refine WD.a 0 (some 92) (.bool t91) h_101 ?_
                      refine WD.nil ?_
                      exact gW _ (J92 _ _ hF)
                cases t46 with
                | true =>
                  refine oT hF fun hF => ?_
                  refine W.r ?_
                  refine oA 47 t5_36 ?_
                  refine oA 48 (.int .i64 t6) ?_
                  refine oK 49 hF fun v49 h_122 hF => ?_
                  refine oK 50 hF fun v50 h_124 hF => ?_
                  refine oA 5 v50 ?_
                  refine oV [(0, t0), (1, t1), (5, v50), (6, .int .i64 t6)] ?_
                  exact gW _ (J81 _ _ hF)
                | false =>
                  refine oU hF fun hF => ?_
                  refine oZ ?_
                  exact gW _ (J81 _ _ hF)
            cases t38 with
            | true =>
              replace hF := ifB_t hF
              refine WL.o (some 40) ?_
              refine WL.o (some 41) ?_
              refine oA 42 (.bool true) ?_
              exact lW _ (J73 _ _ hF)
            | false =>
              replace hF := ifB_f hF
              refine oA 40 (.int .i64 t6) ?_
              refine oB 41 hF fun t41 hF => ?_
              refine oA 42 (.bool t41) ?_
              exact lW _ (J73 _ _ hF)
        cases t31 with
        | true =>
          replace hF := ifB_t hF
          refine WL.o (some 33) ?_
          refine WL.o (some 34) ?_
          refine WL.o (some 35) ?_
          refine oA 36 (.bool true) ?_
          exact lW _ (J66 _ _ hF)
        | false =>
          replace hF := ifB_f hF
          refine oA 33 (.int .i64 t22) ?_
          refine oA 34 (.int .i64 t28) ?_
          refine oB 35 hF fun t35 hF => ?_
          refine oA 36 (.bool t35) ?_
          exact lW _ (J66 _ _ hF)
      | false =>
        refine oU hF fun hF => ?_
        refine W.exit (by kernel_rfl) ?_
        refine e38 (e35 ?_)
        refine s5 (by kernel_rfl) ?_
        exact gW _ (J6 _ _ hF)
  exact gW _ (L35 _ _ _ _ hF)
end Go.Proofs.Ytcbnpdfingfmgaa
