/- Plain functions in place of the program's, and that their calls come to what they say. -/
import Derived.Test.YtcbnpdfingfmgaaFrame
import Derived.Test.YtcbnpdfingfmgaaAbs54
namespace Go.Proofs.Ytcbnpdfingfmgaa
open Go.RowKit Abs

noncomputable def ref04_New (_ : CallF) (_ : Nat)  (h : AHeap) : R :=
  outK (opBox h 76 (some (.agg ([.bool false, .str 0 0, .nsl, .bool false, .str 0 0, .nsl, .bool false, .str 0 0, .nsl, .bool false, .str 0 0, .nsl, .bool false, .str 0 0, .nsl, .bool false, .str 0 0, .nsl, .bool false, .str 0 0, .nsl, .bool false, .str 0 0, .nsl, .bool false, .str 0 0, .nsl, .bool false, .str 0 0, .nsl, .bool false, .str 0 0, .nsl, .bool false, .str 0 0, .nsl, .bool false, .str 0 0, .nsl, .bool false, .str 0 0, .nsl, .bool false, .str 0 0, .nsl, .bool false, .str 0 0, .nsl, .bool false, .str 0 0, .nsl, .bool false, .str 0 0, .nsl, .bool false, .str 0 0, .nsl, .bool false, .str 0 0, .nsl, .bool false, .str 0 0, .nsl, .bool false, .str 0 0, .nsl, .bool false, .str 0 0, .nsl, .bool false, .str 0 0, .nsl, .bool false, .str 0 0, .nsl, .bool false, .str 0 0, .nsl, .bool false, .str 0 0, .nsl, .bool false, .str 0 0, .nsl, .bool false, .str 0 0, .nsl, .bool false, .str 0 0, .nsl, .bool false, .str 0 0, .nsl, .bool false, .str 0 0, .nsl, .int .i64 (-1), .int .i64 0] : List AV)))) fun v2 h_3 =>
  some (.ret (v2), h_3)
set_option maxHeartbeats 4000000 in
set_option maxRecDepth 20000 in
theorem ref04_New_ok {call : CallF} (_ : SaysAll Try.prog call) {n : Nat}  {h : AHeap} {rR : ARes} {hR : AHeap} (hF : ref04_New call n  h = some (rR, hR)) : Says Try.prog 23 [] h rR hR := by
  unfold ref04_New at hF
  refine sO Try.func23 fun w0 m0 => ?_
  refine wW [] ?_
  refine oG fun n1 => W.r ?_
  refine oA 0 AV.nilp ?_
  refine oV [] (n1 ?_)
  refine oG fun n2 => W.r ?_
  refine oA 1 (.agg ([.bool false, .str 0 0, .nsl, .bool false, .str 0 0, .nsl, .bool false, .str 0 0, .nsl, .bool false, .str 0 0, .nsl, .bool false, .str 0 0, .nsl, .bool false, .str 0 0, .nsl, .bool false, .str 0 0, .nsl, .bool false, .str 0 0, .nsl, .bool false, .str 0 0, .nsl, .bool false, .str 0 0, .nsl, .bool false, .str 0 0, .nsl, .bool false, .str 0 0, .nsl, .bool false, .str 0 0, .nsl, .bool false, .str 0 0, .nsl, .bool false, .str 0 0, .nsl, .bool false, .str 0 0, .nsl, .bool false, .str 0 0, .nsl, .bool false, .str 0 0, .nsl, .bool false, .str 0 0, .nsl, .bool false, .str 0 0, .nsl, .bool false, .str 0 0, .nsl, .bool false, .str 0 0, .nsl, .bool false, .str 0 0, .nsl, .bool false, .str 0 0, .nsl, .bool false, .str 0 0, .nsl, .bool false, .str 0 0, .nsl, .bool false, .str 0 0, .nsl, .bool false, .str 0 0, .nsl, .bool false, .str 0 0, .nsl, .bool false, .str 0 0, .nsl, .bool false, .str 0 0, .nsl, .bool false, .str 0 0, .nsl, .int .i64 (-1), .int .i64 0] : List AV)) ?_
  refine oK 2 hF fun v2 h_3 hF => ?_
  refine oA 0 v2 ?_
  refine oV [(0, v2)] (n2 (oY ?_))
  exact lZ hF [.tmp 0] [v2] (rT res_nil)
noncomputable def ref04_Disk_Copy (_ : CallF) (_ : Nat) (t0 : AV) (h : AHeap) : R :=
  obind (nilC t0) fun t5 =>
  obind (ldRow h 98 t5) fun t6 =>
  lett (newH h 76 [.bool false, .str 0 0, .nsl, .bool false, .str 0 0, .nsl, .bool false, .str 0 0, .nsl, .bool false, .str 0 0, .nsl, .bool false, .str 0 0, .nsl, .bool false, .str 0 0, .nsl, .bool false, .str 0 0, .nsl, .bool false, .str 0 0, .nsl, .bool false, .str 0 0, .nsl, .bool false, .str 0 0, .nsl, .bool false, .str 0 0, .nsl, .bool false, .str 0 0, .nsl, .bool false, .str 0 0, .nsl, .bool false, .str 0 0, .nsl, .bool false, .str 0 0, .nsl, .bool false, .str 0 0, .nsl, .bool false, .str 0 0, .nsl, .bool false, .str 0 0, .nsl, .bool false, .str 0 0, .nsl, .bool false, .str 0 0, .nsl, .bool false, .str 0 0, .nsl, .bool false, .str 0 0, .nsl, .bool false, .str 0 0, .nsl, .bool false, .str 0 0, .nsl, .bool false, .str 0 0, .nsl, .bool false, .str 0 0, .nsl, .bool false, .str 0 0, .nsl, .bool false, .str 0 0, .nsl, .bool false, .str 0 0, .nsl, .bool false, .str 0 0, .nsl, .bool false, .str 0 0, .nsl, .bool false, .str 0 0, .nsl, .int .i64 0, .int .i64 0]) fun h_5 =>
  obind (stRow h_5 98 t6 (newP h)) fun h_7 =>
  some (.ret (newP h), h_7)
set_option maxHeartbeats 4000000 in
set_option maxRecDepth 20000 in
theorem ref04_Disk_Copy_ok {call : CallF} (_ : SaysAll Try.prog call) {n : Nat} {t0 : AV} {h : AHeap} {rR : ARes} {hR : AHeap} (hF : ref04_Disk_Copy call n t0 h = some (rR, hR)) : Says Try.prog 24 [t0] h rR hR := by
  unfold ref04_Disk_Copy at hF
  refine sO Try.func24 fun w0 m0 => ?_
  refine wW [(0, t0)] ?_
  refine oG fun n1 => W.r ?_
  refine oA 2 AV.nilp ?_
  refine oV [(0, t0)] (n1 ?_)
  refine oG fun n2 => W.r ?_
  refine oA 4 t0 ?_
  refine oC0 5 hF fun t5 hF => ?_
  refine oR 6 76 hF fun t6 hF => ?_
  refine oN 3 hF fun h_5 hF => ?_
  refine oW 76 (.agg t6) hF fun h_7 hF => ?_
  refine oV [(3, (newP h))] (n2 ?_)
  refine oG fun n9 => W.r ?_
  refine oA 2 (newP h) ?_
  refine oV [(2, (newP h))] (n9 (oY ?_))
  exact lZ hF [.tmp 2] [(newP h)] (rT res_nil)
noncomputable def ref04_Disk_Change (call : CallF) (_ : Nat) (t0 : AV) (t1 : Int) (t2 : List AV) (h : AHeap) : R :=
  outK (opBox h 79 (some (.agg t2))) fun v5 h_2 =>
  callN (call 41 [t0, .int .i64 t1] h_2) fun r12 h_5 =>
  obind (avAgg r12) fun t12 =>
  lett (newH h_5 70 [.bool false, .str 0 0]) fun h_8 =>
  obind (stRow h_8 2 t12 (newP h_5)) fun h_10 =>
  obind (fldP 0 v5) fun t14 =>
  obind (ldCell h_10 t14) fun v15 =>
  obind (avInt .i64 v15) fun t15 =>
  lett ((t15 : Int) == 1) fun (t16 : Bool) =>
  lett (fun (t8 : Int) (h_21 : AHeap) =>
    callN (call 43 [t0, .int .i64 t1, .int .i64 t8] h_21) fun r49 h_23 =>
    obind (avInt .i64 r49) fun t49 =>
    lett ((t49 : Int) == 0) fun (t51 : Bool) =>
    lett (fun  (h_30 : AHeap) =>
      some (.ret (.int .i64 t49), h_30)) fun k29 =>
    ifB t51
    (
      obind (nilC t0) fun t55 =>
      obind (fldP 0 t55) fun t56 =>
      obind (idxA 32 3 t56 t1) fun t57 =>
      obind (fldP 2 t57) fun t58 =>
      obind (ldCell h_23 t58) fun v59 =>
      outK (opAppend Try.prog h_23 71 71 AV.nsl v59) fun v60 h_39 =>
      obind (ldRow h_39 3 v5) fun t64 =>
      obind (nilC t0) fun t67 =>
      obind (fldP 0 t67) fun t68 =>
      outK (bldSl Try.prog h_39 71 1 [(0, .agg t64)]) fun v65 h_44 =>
      outK (opAppend Try.prog h_44 71 71 v60 v65) fun v66 h_46 =>
      obind (idxA 32 3 t68 t1) fun t69 =>
      obind (fldP 2 t69) fun t70 =>
      obind (stRow h_46 1 (AV.cells v66) t70) fun h_50 =>
      k29 h_50)
    (
      k29 h_23)) fun k20 =>
  ifB t16
  (
    obind (fldP 1 v5) fun t17 =>
    obind (ldCell h_10 t17) fun v18 =>
    obind (avStr v18) fun t18 =>
    obind (ldCell h_10 (AV.ptr (AHeap.next h_5) 1)) fun v21 =>
    obind (avStr v21) fun t21 =>
    lett (IntKind.i64.wrap (1048576 - (lenS t21))) fun (t23 : Int) =>
    lett (decide ((lenS t18) > t23)) fun (t24 : Bool) =>
    lett (fun (t8_61 : Int) (h_62 : AHeap) =>
      k20 t8_61 h_62) fun k60 =>
    ifB t24
    (
      k60 8 h_10)
    (
      k60 0 h_10))
  (
    obind (ldCell h_10 (AV.ptr (AHeap.next h_5) 0)) fun v27 =>
    obind (avBool v27) fun t27 =>
    lett (!t27) fun (t28 : Bool) =>
    lett (fun (t8_68 : Int) (h_69 : AHeap) =>
      k20 t8_68 h_69) fun k67 =>
    ifB t28
    (
      k67 4 h_10)
    (
      obind (fldP 0 v5) fun t30 =>
      obind (ldCell h_10 t30) fun v31 =>
      obind (avInt .i64 v31) fun t31 =>
      lett ((t31 : Int) == 2) fun (t32 : Bool) =>
      lett (fun (t45 : Bool) (h_75 : AHeap) =>
        lett (fun (t8_79 : Int) (h_80 : AHeap) =>
          k67 t8_79 h_80) fun k78 =>
        ifB t45
        (
          k78 5 h_75)
        (
          k78 0 h_75)) fun j45 =>
      ifB t32
      (
        obind (fldP 2 v5) fun t34 =>
        obind (ldCell h_10 t34) fun v35 =>
        obind (avInt .i64 v35) fun t35 =>
        lett (decide (t35 < 0)) fun (t36 : Bool) =>
        lett (fun (t44 : Bool) (h_85 : AHeap) =>
          j45 t44 h_85) fun j44 =>
        ifB t36
        (
          j44 true h_10)
        (
          obind (fldP 2 v5) fun t38 =>
          obind (ldCell h_10 t38) fun v39 =>
          obind (avInt .i64 v39) fun t39 =>
          obind (ldCell h_10 (AV.ptr (AHeap.next h_5) 1)) fun v41 =>
          obind (avStr v41) fun t41 =>
          lett (decide (t39 > (lenS t41))) fun (t43 : Bool) =>
          j44 t43 h_10))
      (
        j45 false h_10)))
set_option maxHeartbeats 4000000 in
set_option maxRecDepth 20000 in
theorem ref04_Disk_Change_ok {call : CallF} (hc : SaysAll Try.prog call) {n : Nat} {t0 : AV} {t1 : Int} {t2 : List AV} {h : AHeap} {rR : ARes} {hR : AHeap} (hF : ref04_Disk_Change call n t0 t1 t2 h = some (rR, hR)) : Says Try.prog 35 [t0, .int .i64 t1, .agg t2] h rR hR := by
  unfold ref04_Disk_Change at hF
  refine sO Try.func35 fun w0 m0 => ?_
  refine wW [(0, t0), (1, .int .i64 t1), (2, .agg t2)] ?_
  refine oG fun n1 => W.r ?_
  refine oK 5 hF fun v5 h_2 hF => ?_
  refine oA 6 (.int .i64 0) ?_
  refine oV [(0, t0), (1, .int .i64 t1), (5, v5)] (n1 ?_)
  refine oG fun n4 => W.r ?_
  refine oA 10 t0 ?_
  refine oA 11 (.int .i64 t1) ?_
  refine oCa hc 12 hF fun t12 h_5 hF => ?_
  refine oN 7 hF fun h_8 hF => ?_
  refine oW 70 (.agg t12) hF fun h_10 hF => ?_
  refine oV [(0, t0), (1, .int .i64 t1), (5, v5), (7, (newP h_5))] (n4 ?_)
  refine oG fun n12 => W.r ?_
  refine oA 8 (.int .i64 0) ?_
  refine oV [(0, t0), (1, .int .i64 t1), (5, v5), (7, (newP h_5)), (8, .int .i64 0)] (n12 ?_)
  refine oG fun n13 => ?_
  refine W.blockK (by kernel_rfl) (fun K14 n14 s14 o14 q14 p14 => ?_)
  refine oG fun n15 => W.r ?_
  refine oF 14 79 0 hF fun t14 hF => ?_
  refine oLi 15 3 hF fun t15 hF => ?_
  refine oB 16 hF fun t16 hF => ?_
  refine oA 13 (.bool t16) ?_
  refine oV [(0, t0), (1, .int .i64 t1), (5, v5), (7, (newP h_5)), (8, .int .i64 0), (13, .bool t16)] (n15 ?_)
  obtain ⟨k20, e20, hF⟩ := lett_some hF
  have J20 : ∀ (t8 : Int) (h_21 : AHeap), k20 t8 h_21 = some (rR, hR) → Go w0 m0 (Func.ntmps Try.f35) (K14 .normal) [(0, t0), (1, .int .i64 t1), (5, v5), (8, .int .i64 t8)] [] h_21 := by
    intro t8 h_21 hF
    rw [e20] at hF
    refine n14 (n13 ?_)
    refine oG fun n22 => W.r ?_
    refine oA 46 t0 ?_
    refine oA 47 (.int .i64 t1) ?_
    refine oA 48 (.int .i64 t8) ?_
    refine oCi hc 49 hF fun t49 h_23 hF => ?_
    refine oA 8 (.int .i64 t49) ?_
    refine oV [(0, t0), (1, .int .i64 t1), (5, v5), (8, .int .i64 t49)] (n22 ?_)
    refine W.s (fun K26 n26 e26 q26 p26 => ?_)
    refine oG fun n27 => W.r ?_
    refine oA 50 (.int .i64 t49) ?_
    refine oB 51 hF fun t51 hF => ?_
    refine oV [(0, t0), (1, .int .i64 t1), (5, v5), (8, .int .i64 t49), (51, .bool t51)] (n27 ?_)
    obtain ⟨k29, e29, hF⟩ := lett_some hF
    have J29 : ∀  (h_30 : AHeap), k29 h_30 = some (rR, hR) → Go w0 m0 (Func.ntmps Try.f35) (K26 .normal) [(8, .int .i64 t49)] [] h_30 := by
      intro  h_30 hF
      rw [e29] at hF
      refine n26 ?_
      refine oG fun n31 => W.r ?_
      refine oA 71 (.int .i64 t49) ?_
      refine oA 6 (.int .i64 t49) ?_
      refine oV [(6, .int .i64 t49)] (n31 (oY ?_))
      exact lZ hF [.tmp 6] [.int .i64 t49] (rT res_nil)
    cases t51 with
    | true =>
      refine oT hF fun hF => ?_
      refine oG fun n32 => W.r ?_
      refine oA 9 AV.nsl ?_
      refine oV [(0, t0), (1, .int .i64 t1), (5, v5), (8, .int .i64 t49), (9, AV.nsl)] (n32 ?_)
      refine oG fun n33 => W.r ?_
      refine oA 52 AV.nsl ?_
      refine oA 53 t0 ?_
      refine oA 54 (.int .i64 t1) ?_
      refine oC0 55 hF fun t55 hF => ?_
      refine oF 56 76 0 hF fun t56 hF => ?_
      refine oQ 57 74 73 .i64 hF fun t57 hF => ?_
      refine oF 58 73 1 hF fun t58 hF => ?_
      refine oL 59 71 hF fun v59 hF => ?_
      refine oK 60 hF fun v60 h_39 hF => ?_
      refine oA 9 v60 ?_
      refine oV [(0, t0), (1, .int .i64 t1), (5, v5), (8, .int .i64 t49), (9, v60)] (n33 ?_)
      refine W.draw (by kernel_rfl) (hc.ok w0) (plan := [0, 1, 2, 3, 6, 7, 4, 5, 8, 9, 10]) (by kernel_rfl) (by kernel_rfl) (by kernel_rfl) ?_
      refine WD.a 0 (some 61) t0 h_39 ?_
      refine WD.a 0 (some 62) (.int .i64 t1) h_39 ?_
      refine WD.a 0 (some 63) v60 h_39 ?_
      obtain ⟨t64, e41, hF⟩ := obind_some hF
      refine WD.b 1 (some 64) (.agg t64) h_39 (load_row (P := Try.prog) (h := h_39) (t := 79) (by kernel_rfl) (by kernel_rfl) e41) ?_
      obtain ⟨t67, e42, hF⟩ := obind_some hF
      refine WD.b 0 (some 67) t67 h_39 (nil_chk (h := h_39) e42) ?_
      obtain ⟨t68, e43, hF⟩ := obind_some hF
      refine WD.b 0 (some 68) t68 h_39 (field_ptr (P := Try.prog) (h := h_39) (s := 76) (f := 0) (by kernel_rfl) e43) ?_
      obtain ⟨v65, h_44, e45, hF⟩ := outK_some hF
      refine WD.val (d := (some 65)) (v := v65) (h' := h_44) (by kernel_rfl) (by kernel_rfl) (Eq.trans (by kernel_rfl) e45) (k := 2) (by kernel_rfl) (fun _ => (by kernel_rfl)) (by decide) ?_
      obtain ⟨v66, h_46, e47, hF⟩ := outK_some hF
      refine WD.val (d := (some 66)) (v := v66) (h' := h_46) (by kernel_rfl) (by kernel_rfl) (Eq.trans (by kernel_rfl) e47) (k := 2) (by kernel_rfl) (fun _ => (by kernel_rfl)) (by decide) ?_
      obtain ⟨t69, e48, hF⟩ := obind_some hF
      refine WD.b 0 (some 69) t69 h_46 (index_arr (P := Try.prog) (h := h_46) (t := 74) (e' := 73) (k := .i64) (by kernel_rfl) (by kernel_rfl) (by kernel_rfl) e48) ?_
      obtain ⟨t70, e49, hF⟩ := obind_some hF
      refine WD.b 0 (some 70) t70 h_46 (field_ptr (P := Try.prog) (h := h_46) (s := 73) (f := 1) (by kernel_rfl) e49) ?_
      obtain ⟨h_50, e51, hF⟩ := obind_some hF
      refine WD.eff (h' := h_50) (by kernel_rfl) (by kernel_rfl) (Eq.trans (by kernel_rfl) (store_row (P := Try.prog) (h := h_46) (t := 71) (v := v66) (by kernel_rfl) (by kernel_rfl) e51)) (k := 2) (by kernel_rfl) (fun _ => (by kernel_rfl)) (by decide) ?_
      refine WD.nil ?_
      refine gW [(8, .int .i64 t49)] ?_
      exact gW _ (J29 _ hF)
    | false =>
      refine oU hF fun hF => ?_
      refine oZ ?_
      exact gW _ (J29 _ hF)
  cases t16 with
  | true =>
    refine oT hF fun hF => ?_
    refine oG fun n52 => W.r ?_
    refine oF 17 79 1 hF fun t17 hF => ?_
    refine oLs 18 9 hF fun t18 hF => ?_
    refine oA 19 (.int .i64 (lenS t18)) ?_
    refine oA 20 (AV.ptr (AHeap.next h_5) 1) ?_
    refine oLs 21 9 hF fun t21 hF => ?_
    refine oA 22 (.int .i64 (lenS t21)) ?_
    refine oI 23 .i64 hF fun t23 hF => ?_
    refine oB 24 hF fun t24 hF => ?_
    refine oV [(0, t0), (1, .int .i64 t1), (5, v5), (8, .int .i64 0), (24, .bool t24)] (n52 ?_)
    obtain ⟨k60, e60, hF⟩ := lett_some hF
    have J60 : ∀ (t8_61 : Int) (h_62 : AHeap), k60 t8_61 h_62 = some (rR, hR) → Go w0 m0 (Func.ntmps Try.f35) (K14 .normal) [(0, t0), (1, .int .i64 t1), (5, v5), (8, .int .i64 t8_61)] [] h_62 := by
      intro t8_61 h_62 hF
      rw [e60] at hF
      exact gW _ (J20 _ _ hF)
    cases t24 with
    | true =>
      refine oT hF fun hF => ?_
      refine W.r ?_
      refine oA 8 (.int .i64 8) ?_
      refine oV [(0, t0), (1, .int .i64 t1), (5, v5), (8, .int .i64 8)] ?_
      exact gW _ (J60 _ _ hF)
    | false =>
      refine oU hF fun hF => ?_
      refine oZ ?_
      exact gW _ (J60 _ _ hF)
  | false =>
    refine oU hF fun hF => ?_
    refine oG fun n63 => W.r ?_
    refine oA 26 (AV.ptr (AHeap.next h_5) 0) ?_
    refine oLb 27 4 hF fun t27 hF => ?_
    refine oB 28 hF fun t28 hF => ?_
    refine oA 25 (.bool t28) ?_
    refine oV [(0, t0), (1, .int .i64 t1), (5, v5), (7, (newP h_5)), (8, .int .i64 0), (25, .bool t28)] (n63 ?_)
    obtain ⟨k67, e67, hF⟩ := lett_some hF
    have J67 : ∀ (t8_68 : Int) (h_69 : AHeap), k67 t8_68 h_69 = some (rR, hR) → Go w0 m0 (Func.ntmps Try.f35) (K14 .normal) [(0, t0), (1, .int .i64 t1), (5, v5), (8, .int .i64 t8_68)] [] h_69 := by
      intro t8_68 h_69 hF
      rw [e67] at hF
      exact gW _ (J20 _ _ hF)
    cases t28 with
    | true =>
      refine oT hF fun hF => ?_
      refine W.r ?_
      refine oA 8 (.int .i64 4) ?_
      refine oV [(0, t0), (1, .int .i64 t1), (5, v5), (8, .int .i64 4)] ?_
      exact gW _ (J67 _ _ hF)
    | false =>
      refine oU hF fun hF => ?_
      refine W.s (fun K70 n70 e70 q70 p70 => ?_)
      refine W.r ?_
      refine oF 30 79 0 hF fun t30 hF => ?_
      refine oLi 31 3 hF fun t31 hF => ?_
      refine oB 32 hF fun t32 hF => ?_
      refine oA 33 (.bool t32) ?_
      obtain ⟨j45, e76, hF⟩ := lett_some hF
      have J77 : ∀ (t45 : Bool) (h_75 : AHeap), j45 t45 h_75 = some (rR, hR) → WL Try.prog w0 m0 (Func.ntmps Try.f35) (Code.ops (Code.p1 (Code.p2 (Code.p2 (Code.p2 (Code.p2 (Code.p1 (Code.p1 (Code.p2 (Code.p2 (Code.p2 (codeOf Try.f35)))))))))))) 16 K70 [(0, t0), (1, .int .i64 t1), (5, v5), (8, .int .i64 0), (45, .bool t45)] [] h_75 := by
        intro t45 h_75 hF
        rw [e76] at hF
        refine oA 29 (.bool t45) ?_
        refine oV [(0, t0), (1, .int .i64 t1), (5, v5), (8, .int .i64 0), (29, .bool t45)] (n70 ?_)
        obtain ⟨k78, e78, hF⟩ := lett_some hF
        have J78 : ∀ (t8_79 : Int) (h_80 : AHeap), k78 t8_79 h_80 = some (rR, hR) → Go w0 m0 (Func.ntmps Try.f35) (K14 .normal) [(0, t0), (1, .int .i64 t1), (5, v5), (8, .int .i64 t8_79)] [] h_80 := by
          intro t8_79 h_80 hF
          rw [e78] at hF
          exact gW _ (J67 _ _ hF)
        cases t45 with
        | true =>
          refine oT hF fun hF => ?_
          refine W.r ?_
          refine oA 8 (.int .i64 5) ?_
          refine oV [(0, t0), (1, .int .i64 t1), (5, v5), (8, .int .i64 5)] ?_
          exact gW _ (J78 _ _ hF)
        | false =>
          refine oU hF fun hF => ?_
          refine oZ ?_
          exact gW _ (J78 _ _ hF)
      cases t32 with
      | true =>
        replace hF := ifB_t hF
        refine oF 34 79 2 hF fun t34 hF => ?_
        refine oLi 35 3 hF fun t35 hF => ?_
        refine oB 36 hF fun t36 hF => ?_
        refine oA 37 (.bool t36) ?_
        obtain ⟨j44, e86, hF⟩ := lett_some hF
        have J87 : ∀ (t44 : Bool) (h_85 : AHeap), j44 t44 h_85 = some (rR, hR) → WL Try.prog w0 m0 (Func.ntmps Try.f35) (Code.ops (Code.p1 (Code.p2 (Code.p2 (Code.p2 (Code.p2 (Code.p1 (Code.p1 (Code.p2 (Code.p2 (Code.p2 (codeOf Try.f35)))))))))))) 15 K70 [(0, t0), (1, .int .i64 t1), (5, v5), (8, .int .i64 0), (33, .bool true), (44, .bool t44)] [] h_85 := by
          intro t44 h_85 hF
          rw [e86] at hF
          refine oA 45 (.bool t44) ?_
          exact lW _ (J77 _ _ hF)
        cases t36 with
        | true =>
          replace hF := ifB_t hF
          refine WL.o (some 38) ?_
          refine WL.o (some 39) ?_
          refine WL.o (some 40) ?_
          refine WL.o (some 41) ?_
          refine WL.o (some 42) ?_
          refine WL.o (some 43) ?_
          refine oA 44 (.bool true) ?_
          exact lW _ (J87 _ _ hF)
        | false =>
          replace hF := ifB_f hF
          refine oF 38 79 2 hF fun t38 hF => ?_
          refine oLi 39 3 hF fun t39 hF => ?_
          refine oA 40 (AV.ptr (AHeap.next h_5) 1) ?_
          refine oLs 41 9 hF fun t41 hF => ?_
          refine oA 42 (.int .i64 (lenS t41)) ?_
          refine oB 43 hF fun t43 hF => ?_
          refine oA 44 (.bool t43) ?_
          exact lW _ (J87 _ _ hF)
      | false =>
        replace hF := ifB_f hF
        refine WL.o (some 34) ?_
        refine WL.o (some 35) ?_
        refine WL.o (some 36) ?_
        refine WL.o (some 37) ?_
        refine WL.o (some 38) ?_
        refine WL.o (some 39) ?_
        refine WL.o (some 40) ?_
        refine WL.o (some 41) ?_
        refine WL.o (some 42) ?_
        refine WL.o (some 43) ?_
        refine WL.o (some 44) ?_
        refine oA 45 (.bool false) ?_
        exact lW _ (J77 _ _ hF)
noncomputable def ref04_Disk_Sync (call : CallF) (_ : Nat) (t0 : AV) (t1 : Int) (h : AHeap) : R :=
  callN (call 43 [t0, .int .i64 t1, .int .i64 0] h) fun r8 h_3 =>
  obind (avInt .i64 r8) fun t8 =>
  lett ((t8 : Int) == 0) fun (t10 : Bool) =>
  lett (fun  (h_10 : AHeap) =>
    some (.ret (.int .i64 t8), h_10)) fun k9 =>
  ifB t10
  (
    obind (nilC t0) fun t15 =>
    obind (fldP 0 t15) fun t16 =>
    obind (idxA 32 3 t16 t1) fun t17 =>
    obind (ldRow h_3 3 t17) fun t18 =>
    obind (nilC t0) fun t21 =>
    obind (fldP 0 t21) fun t22 =>
    callN (call 44 [.agg t18] h_3) fun r19 h_18 =>
    obind (avAgg r19) fun t19 =>
    obind (bldS Try.prog 73 [(0, .agg t19)]) fun t20 =>
    obind (idxA 32 3 t22 t1) fun t23 =>
    obind (stRow h_18 3 t20 t23) fun h_23 =>
    k9 h_23)
  (
    k9 h_3)
set_option maxHeartbeats 4000000 in
set_option maxRecDepth 20000 in
theorem ref04_Disk_Sync_ok {call : CallF} (hc : SaysAll Try.prog call) {n : Nat} {t0 : AV} {t1 : Int} {h : AHeap} {rR : ARes} {hR : AHeap} (hF : ref04_Disk_Sync call n t0 t1 h = some (rR, hR)) : Says Try.prog 36 [t0, .int .i64 t1] h rR hR := by
  unfold ref04_Disk_Sync at hF
  refine sO Try.func36 fun w0 m0 => ?_
  refine wW [(0, t0), (1, .int .i64 t1)] ?_
  refine oG fun n1 => W.r ?_
  refine oA 4 (.int .i64 0) ?_
  refine oV [(0, t0), (1, .int .i64 t1)] (n1 ?_)
  refine oG fun n2 => W.r ?_
  refine oA 6 t0 ?_
  refine oA 7 (.int .i64 t1) ?_
  refine oCi hc 8 hF fun t8 h_3 hF => ?_
  refine oA 5 (.int .i64 t8) ?_
  refine oV [(0, t0), (1, .int .i64 t1), (5, .int .i64 t8)] (n2 ?_)
  refine W.s (fun K6 n6 e6 q6 p6 => ?_)
  refine oG fun n7 => W.r ?_
  refine oA 9 (.int .i64 t8) ?_
  refine oB 10 hF fun t10 hF => ?_
  refine oV [(0, t0), (1, .int .i64 t1), (5, .int .i64 t8), (10, .bool t10)] (n7 ?_)
  obtain ⟨k9, e9, hF⟩ := lett_some hF
  have J9 : ∀  (h_10 : AHeap), k9 h_10 = some (rR, hR) → Go w0 m0 (Func.ntmps Try.f36) (K6 .normal) [(5, .int .i64 t8)] [] h_10 := by
    intro  h_10 hF
    rw [e9] at hF
    refine n6 ?_
    refine oG fun n11 => W.r ?_
    refine oA 24 (.int .i64 t8) ?_
    refine oA 4 (.int .i64 t8) ?_
    refine oV [(4, .int .i64 t8)] (n11 (oY ?_))
    exact lZ hF [.tmp 4] [.int .i64 t8] (rT res_nil)
  cases t10 with
  | true =>
    refine oT hF fun hF => ?_
    refine W.draw (by kernel_rfl) (hc.ok w0) (plan := [0, 1, 2, 3, 4, 5, 6, 7, 10, 11, 8, 9, 12, 13]) (by kernel_rfl) (by kernel_rfl) (by kernel_rfl) ?_
    refine WD.a 0 (some 11) t0 h_3 ?_
    refine WD.a 0 (some 12) (.int .i64 t1) h_3 ?_
    refine WD.a 0 (some 13) t0 h_3 ?_
    refine WD.a 0 (some 14) (.int .i64 t1) h_3 ?_
    obtain ⟨t15, e12, hF⟩ := obind_some hF
    refine WD.b 0 (some 15) t15 h_3 (nil_chk (h := h_3) e12) ?_
    obtain ⟨t16, e13, hF⟩ := obind_some hF
    refine WD.b 0 (some 16) t16 h_3 (field_ptr (P := Try.prog) (h := h_3) (s := 76) (f := 0) (by kernel_rfl) e13) ?_
    obtain ⟨t17, e14, hF⟩ := obind_some hF
    refine WD.b 0 (some 17) t17 h_3 (index_arr (P := Try.prog) (h := h_3) (t := 74) (e' := 73) (k := .i64) (by kernel_rfl) (by kernel_rfl) (by kernel_rfl) e14) ?_
    obtain ⟨t18, e15, hF⟩ := obind_some hF
    refine WD.b 1 (some 18) (.agg t18) h_3 (load_row (P := Try.prog) (h := h_3) (t := 73) (by kernel_rfl) (by kernel_rfl) e15) ?_
    obtain ⟨t21, e16, hF⟩ := obind_some hF
    refine WD.b 0 (some 21) t21 h_3 (nil_chk (h := h_3) e16) ?_
    obtain ⟨t22, e17, hF⟩ := obind_some hF
    refine WD.b 0 (some 22) t22 h_3 (field_ptr (P := Try.prog) (h := h_3) (s := 76) (f := 0) (by kernel_rfl) e17) ?_
    replace hF := callN_some hF; obtain ⟨r19, h_18, e19, hF⟩ := hF
    replace hF := obind_some hF; obtain ⟨t19, c20, hF⟩ := hF
    have c20 := avAgg_some c20
    subst c20
    refine WD.call (d := (some 19)) (by kernel_rfl) (by kernel_rfl) (by kernel_rfl) e19 (k := 2) (by kernel_rfl) (fun _ => (by kernel_rfl)) (by decide) ?_
    obtain ⟨t20, e21, hF⟩ := obind_some hF
    refine WD.val (d := (some 20)) (v := .agg t20) (h' := h_18) (by kernel_rfl) (by kernel_rfl) (bld_ok (by kernel_rfl) e21) (k := 0) (by kernel_rfl) (fun e => absurd e (by decide)) (by decide) ?_
    obtain ⟨t23, e22, hF⟩ := obind_some hF
    refine WD.b 0 (some 23) t23 h_18 (index_arr (P := Try.prog) (h := h_18) (t := 74) (e' := 73) (k := .i64) (by kernel_rfl) (by kernel_rfl) (by kernel_rfl) e22) ?_
    obtain ⟨h_23, e24, hF⟩ := obind_some hF
    refine WD.eff (h' := h_23) (by kernel_rfl) (by kernel_rfl) (Eq.trans (by kernel_rfl) (store_row (P := Try.prog) (h := h_18) (t := 73) (v := (.agg t20)) (by kernel_rfl) (by kernel_rfl) e24)) (k := 2) (by kernel_rfl) (fun _ => (by kernel_rfl)) (by decide) ?_
    refine WD.nil ?_
    refine gW [(5, .int .i64 t8)] ?_
    exact gW _ (J9 _ hF)
  | false =>
    refine oU hF fun hF => ?_
    refine oZ ?_
    exact gW _ (J9 _ hF)
noncomputable def ref04_Disk_Crash_L1b (call : CallF) (h_11 : AHeap) (v29 : AV) (t9_48 : Int) (k53 : AHeap → R) (self : Int → AHeap → R) (t10 : Int) (h_117 : AHeap) : R :=
  lett (decide (t10 < t9_48)) fun (t53 : Bool) =>
  ifB t53
  (
    obind (ldRow h_117 2 (newP h_11)) fun t56 =>
    obind (idxP 3 v29 t10) fun t59 =>
    obind (ldRow h_117 3 t59) fun t60 =>
    callN (call 45 [.agg t56, .agg t60] h_117) fun r61 h_126 =>
    obind (avAgg r61) fun t61 =>
    obind (stRow h_126 2 t61 (newP h_11)) fun h_129 =>
    lett (IntKind.i64.wrap (t10 + 1)) fun (t55 : Int) =>
    self t55 h_129)
  (
    k53 h_117)
noncomputable def ref04_Disk_Crash_L1 (call : CallF) (h_11 : AHeap) (v29 : AV) (t9_48 : Int) (k53 : AHeap → R) : Nat → Int → AHeap → R := iterR (fun _ _ => none) (ref04_Disk_Crash_L1b call h_11 v29 t9_48 k53)
theorem ref04_Disk_Crash_L1_s (call : CallF) (h_11 : AHeap) (v29 : AV) (t9_48 : Int) (k53 : AHeap → R) (m : Nat) : ref04_Disk_Crash_L1 call h_11 v29 t9_48 k53 (m + 1) = ref04_Disk_Crash_L1b call h_11 v29 t9_48 k53 (ref04_Disk_Crash_L1 call h_11 v29 t9_48 k53 m) := rfl
noncomputable def ref04_Disk_Crash_L0b (call : CallF) (n : Nat) (t0 : AV) (t1 : AV) (t2 : Int) (k4 : AHeap → R) (self : Int → AHeap → R) (t6 : Int) (h_11 : AHeap) : R :=
  lett (decide (t6 < 32)) fun (t13 : Bool) =>
  ifB t13
  (
    obind (nilC t0) fun t18 =>
    obind (fldP 0 t18) fun t19 =>
    obind (idxA 32 3 t19 t6) fun t20 =>
    obind (fldP 0 t20) fun t21 =>
    obind (ldRow h_11 2 t21) fun t22 =>
    lett (newH h_11 70 [.bool false, .str 0 0]) fun h_23 =>
    obind (stRow h_23 2 t22 (newP h_11)) fun h_25 =>
    obind (nilC t0) fun t25 =>
    obind (fldP 0 t25) fun t26 =>
    obind (idxA 32 3 t26 t6) fun t27 =>
    obind (fldP 2 t27) fun t28 =>
    obind (ldCell h_25 t28) fun v29 =>
    obind (lenL t1) fun t32 =>
    lett (decide (t6 < t32)) fun (t33 : Bool) =>
    lett (fun (t40 : Bool) (h_38 : AHeap) =>
      lett (fun (t9 : Int) (h_42 : AHeap) =>
        obind (lenL v29) fun t47 =>
        lett (decide (t9 > t47)) fun (t48 : Bool) =>
        lett (fun (t9_48 : Int) (h_49 : AHeap) =>
          lett (fun  (h_54 : AHeap) =>
            obind (lenL v29) fun t64 =>
            lett (decide (t9_48 < t64)) fun (t65 : Bool) =>
            lett (fun (t73 : Bool) (h_59 : AHeap) =>
              lett (fun (t82 : Bool) (h_62 : AHeap) =>
                lett (fun (t86 : Bool) (h_65 : AHeap) =>
                  lett (fun  (h_69 : AHeap) =>
                    obind (ldRow h_69 2 (newP h_11)) fun t116 =>
                    obind (bldS Try.prog 73 [(0, .agg t116)]) fun t117 =>
                    obind (nilC t0) fun t118 =>
                    obind (fldP 0 t118) fun t119 =>
                    obind (idxA 32 3 t119 t6) fun t120 =>
                    obind (stRow h_69 3 t117 t120) fun h_75 =>
                    lett (IntKind.i64.wrap (t6 + 1)) fun (t15 : Int) =>
                    self t15 h_75) fun k68 =>
                  ifB t86
                  (
                    obind (idxP 3 v29 t9_48) fun t91 =>
                    obind (fldP 1 t91) fun t92 =>
                    obind (ldCell h_65 t92) fun v93 =>
                    obind (avStr v93) fun t93 =>
                    lett (IntKind.i64.wrap ((lenS t93) - 1)) fun (t95 : Int) =>
                    lett (decide (t2 > t95)) fun (t96 : Bool) =>
                    lett (fun (t11 : Int) (h_88 : AHeap) =>
                      obind (ldRow h_88 2 (newP h_11)) fun t104 =>
                      obind (idxP 3 v29 t9_48) fun t107 =>
                      obind (fldP 1 t107) fun t108 =>
                      obind (ldCell h_88 t108) fun v109 =>
                      obind (avStr v109) fun t109 =>
                      obind (sliceS t109 0 t11) fun t111 =>
                      callN (call 45 [.agg t104, .agg ([.int .i64 1, strA t111, .int .i64 0] : List AV)] h_88) fun r113 h_95 =>
                      obind (avAgg r113) fun t113 =>
                      obind (stRow h_95 2 t113 (newP h_11)) fun h_98 =>
                      k68 h_98) fun k87 =>
                    ifB t96
                    (
                      obind (idxP 3 v29 t9_48) fun t99 =>
                      obind (fldP 1 t99) fun t100 =>
                      obind (ldCell h_65 t100) fun v101 =>
                      obind (avStr v101) fun t101 =>
                      lett (IntKind.i64.wrap ((lenS t101) - 1)) fun (t103 : Int) =>
                      k87 t103 h_65)
                    (
                      k87 t2 h_65))
                  (
                    k68 h_65)) fun j86 =>
                ifB t82
                (
                  lett (decide (t2 > 0)) fun (t85 : Bool) =>
                  j86 t85 h_62)
                (
                  j86 false h_62)) fun j82 =>
              ifB t73
              (
                obind (idxP 3 v29 t9_48) fun t77 =>
                obind (fldP 1 t77) fun t78 =>
                obind (ldCell h_59 t78) fun v79 =>
                obind (avStr v79) fun t79 =>
                lett (decide ((lenS t79) > 0)) fun (t81 : Bool) =>
                j82 t81 h_59)
              (
                j82 false h_59)) fun j73 =>
            ifB t65
            (
              obind (idxP 3 v29 t9_48) fun t69 =>
              obind (fldP 0 t69) fun t70 =>
              obind (ldCell h_54 t70) fun v71 =>
              obind (avInt .i64 v71) fun t71 =>
              lett ((t71 : Int) == 1) fun (t72 : Bool) =>
              j73 t72 h_54)
            (
              j73 false h_54)) fun k53 =>
          ref04_Disk_Crash_L1 call h_11 v29 t9_48 k53 n 0 h_49) fun k47 =>
        ifB t48
        (
          obind (lenL v29) fun t50 =>
          k47 t50 h_42)
        (
          k47 t9 h_42)) fun k41 =>
      ifB t40
      (
        obind (idxP 1 t1 t6) fun t43 =>
        obind (ldCell h_38 t43) fun v44 =>
        obind (avInt .i64 v44) fun t44 =>
        k41 t44 h_38)
      (
        k41 0 h_38)) fun j40 =>
    ifB t33
    (
      obind (idxP 1 t1 t6) fun t37 =>
      obind (ldCell h_25 t37) fun v38 =>
      obind (avInt .i64 v38) fun t38 =>
      lett (decide (t38 > 0)) fun (t39 : Bool) =>
      j40 t39 h_25)
    (
      j40 false h_25))
  (
    k4 h_11)
noncomputable def ref04_Disk_Crash_L0 (call : CallF) (n : Nat) (t0 : AV) (t1 : AV) (t2 : Int) (k4 : AHeap → R) : Nat → Int → AHeap → R := iterR (fun _ _ => none) (ref04_Disk_Crash_L0b call n t0 t1 t2 k4)
theorem ref04_Disk_Crash_L0_s (call : CallF) (n : Nat) (t0 : AV) (t1 : AV) (t2 : Int) (k4 : AHeap → R) (m : Nat) : ref04_Disk_Crash_L0 call n t0 t1 t2 k4 (m + 1) = ref04_Disk_Crash_L0b call n t0 t1 t2 k4 (ref04_Disk_Crash_L0 call n t0 t1 t2 k4 m) := rfl
noncomputable def ref04_Disk_Crash (call : CallF) (n : Nat) (t0 : AV) (t1 : AV) (t2 : Int) (h : AHeap) : R :=
  lett (fun  (h_5 : AHeap) =>
    obind (nilC t0) fun t122 =>
    obind (fldP 96 t122) fun t123 =>
    obind (stRow h_5 1 [.int .i64 (-1)] t123) fun h_8 =>
    some (.ret (.tup []), h_8)) fun k4 =>
  ref04_Disk_Crash_L0 call n t0 t1 t2 k4 n 0 h
set_option maxHeartbeats 4000000 in
set_option maxRecDepth 20000 in
theorem ref04_Disk_Crash_ok {call : CallF} (hc : SaysAll Try.prog call) {n : Nat} {t0 : AV} {t1 : AV} {t2 : Int} {h : AHeap} {rR : ARes} {hR : AHeap} (hF : ref04_Disk_Crash call n t0 t1 t2 h = some (rR, hR)) : Says Try.prog 38 [t0, t1, .int .i64 t2] h rR hR := by
  unfold ref04_Disk_Crash at hF
  refine sO Try.func38 fun w0 m0 => ?_
  refine wW [(0, t0), (1, t1), (2, .int .i64 t2)] ?_
  refine W.s (fun K1 n1 e1 q1 p1 => ?_)
  refine oG fun n2 => W.r ?_
  refine oA 6 (.int .i64 0) ?_
  refine oV [(0, t0), (1, t1), (2, .int .i64 t2), (6, .int .i64 0)] (n2 ?_)
  obtain ⟨k4, e4, hF⟩ := lett_some hF
  have J4 : ∀  (h_5 : AHeap), k4 h_5 = some (rR, hR) → Go w0 m0 (Func.ntmps Try.f38) (K1 .normal) [(0, t0)] [] h_5 := by
    intro  h_5 hF
    rw [e4] at hF
    refine n1 (W.r ?_)
    refine oA 121 t0 ?_
    refine oC0 122 hF fun t122 hF => ?_
    refine oF 123 76 1 hF fun t123 hF => ?_
    refine oW 3 (.int .i64 (-1)) hF fun h_8 hF => ?_
    refine oV [] ?_
    exact lY hF [] [] res_nil
  refine W.blockK (by kernel_rfl) (fun K3 n3 s3 o3 q3 p3 => ?_)
  refine W.loopK (by kernel_rfl) (fun I10 K10 b10 n10 e10 q10 p10 => ?_)
  have L10 : ∀ (m : Nat) (t6 : Int) (h_11 : AHeap), ref04_Disk_Crash_L0 call n t0 t1 t2 k4 m t6 h_11 = some (rR, hR) → Go w0 m0 (Func.ntmps Try.f38) I10 [(0, t0), (1, t1), (2, .int .i64 t2), (6, .int .i64 t6)] [] h_11 := by
    intro m
    induction m with
    | zero => intro t6 h_11 hF; cases hF
    | succ m ih10 =>
      intro t6 h_11 hF
      rw [ref04_Disk_Crash_L0_s] at hF; unfold ref04_Disk_Crash_L0b at hF
      refine b10 ?_
      refine W.s (fun K12 n12 e12 q12 p12 => ?_)
      refine oG fun n13 => W.r ?_
      refine oA 12 (.int .i64 t6) ?_
      refine oB 13 hF fun t13 hF => ?_
      refine oV [(0, t0), (1, t1), (2, .int .i64 t2), (6, .int .i64 t6), (13, .bool t13)] (n13 ?_)
      cases t13 with
      | true =>
        refine oT hF fun hF => ?_
        refine oZ (n12 ?_)
        refine oG fun n15 => ?_
        refine W.blockK (by kernel_rfl) (fun K16 n16 s16 o16 q16 p16 => ?_)
        refine oG fun n17 => W.r ?_
        refine oA 16 t0 ?_
        refine oA 17 (.int .i64 t6) ?_
        refine oC0 18 hF fun t18 hF => ?_
        refine oF 19 76 0 hF fun t19 hF => ?_
        refine oQ 20 74 73 .i64 hF fun t20 hF => ?_
        refine oF 21 73 0 hF fun t21 hF => ?_
        refine oR 22 70 hF fun t22 hF => ?_
        refine oN 7 hF fun h_23 hF => ?_
        refine oW 70 (.agg t22) hF fun h_25 hF => ?_
        refine oV [(0, t0), (1, t1), (2, .int .i64 t2), (6, .int .i64 t6), (7, (newP h_11))] (n17 ?_)
        refine oG fun n27 => W.r ?_
        refine oA 23 t0 ?_
        refine oA 24 (.int .i64 t6) ?_
        refine oC0 25 hF fun t25 hF => ?_
        refine oF 26 76 0 hF fun t26 hF => ?_
        refine oQ 27 74 73 .i64 hF fun t27 hF => ?_
        refine oF 28 73 1 hF fun t28 hF => ?_
        refine oL 29 71 hF fun v29 hF => ?_
        refine oA 8 v29 ?_
        refine oV [(0, t0), (1, t1), (2, .int .i64 t2), (6, .int .i64 t6), (7, (newP h_11)), (8, v29)] (n27 ?_)
        refine oG fun n33 => W.r ?_
        refine oA 9 (.int .i64 0) ?_
        refine oV [(0, t0), (1, t1), (2, .int .i64 t2), (6, .int .i64 t6), (7, (newP h_11)), (8, v29), (9, .int .i64 0)] (n33 ?_)
        refine W.s (fun K34 n34 e34 q34 p34 => ?_)
        refine W.s (fun K35 n35 e35 q35 p35 => ?_)
        refine W.r ?_
        refine oA 30 (.int .i64 t6) ?_
        refine oA 31 t1 ?_
        refine oM 32 34 3 hF fun t32 hF => ?_
        refine oB 33 hF fun t33 hF => ?_
        refine oA 34 (.bool t33) ?_
        obtain ⟨j40, e39, hF⟩ := lett_some hF
        have J40 : ∀ (t40 : Bool) (h_38 : AHeap), j40 t40 h_38 = some (rR, hR) → WL Try.prog w0 m0 (Func.ntmps Try.f38) (Code.ops (Code.p1 (Code.p1 (Code.p2 (Code.p2 (Code.p2 (Code.p1 (Code.p1 (Code.p2 (Code.p1 (Code.p1 (Code.p2 (Code.p1 (codeOf Try.f38)))))))))))))) 11 K35 [(0, t0), (1, t1), (2, .int .i64 t2), (6, .int .i64 t6), (7, (newP h_11)), (8, v29), (9, .int .i64 0), (40, .bool t40)] [] h_38 := by
          intro t40 h_38 hF
          rw [e39] at hF
          refine oV [(0, t0), (1, t1), (2, .int .i64 t2), (6, .int .i64 t6), (7, (newP h_11)), (8, v29), (9, .int .i64 0), (40, .bool t40)] (n35 ?_)
          obtain ⟨k41, e41, hF⟩ := lett_some hF
          have J41 : ∀ (t9 : Int) (h_42 : AHeap), k41 t9 h_42 = some (rR, hR) → Go w0 m0 (Func.ntmps Try.f38) (K34 .normal) [(0, t0), (1, t1), (2, .int .i64 t2), (6, .int .i64 t6), (7, (newP h_11)), (8, v29), (9, .int .i64 t9)] [] h_42 := by
            intro t9 h_42 hF
            rw [e41] at hF
            refine n34 ?_
            refine W.s (fun K43 n43 e43 q43 p43 => ?_)
            refine oG fun n44 => W.r ?_
            refine oA 45 (.int .i64 t9) ?_
            refine oA 46 v29 ?_
            refine oM 47 71 79 hF fun t47 hF => ?_
            refine oB 48 hF fun t48 hF => ?_
            refine oV [(0, t0), (1, t1), (2, .int .i64 t2), (6, .int .i64 t6), (7, (newP h_11)), (8, v29), (9, .int .i64 t9), (48, .bool t48)] (n44 ?_)
            obtain ⟨k47, e47, hF⟩ := lett_some hF
            have J47 : ∀ (t9_48 : Int) (h_49 : AHeap), k47 t9_48 h_49 = some (rR, hR) → Go w0 m0 (Func.ntmps Try.f38) (K43 .normal) [(0, t0), (1, t1), (2, .int .i64 t2), (6, .int .i64 t6), (7, (newP h_11)), (8, v29), (9, .int .i64 t9_48)] [] h_49 := by
              intro t9_48 h_49 hF
              rw [e47] at hF
              refine n43 ?_
              refine W.s (fun K50 n50 e50 q50 p50 => ?_)
              refine oG fun n51 => W.r ?_
              refine oA 10 (.int .i64 0) ?_
              refine oV [(0, t0), (1, t1), (2, .int .i64 t2), (6, .int .i64 t6), (7, (newP h_11)), (8, v29), (9, .int .i64 t9_48), (10, .int .i64 0)] (n51 ?_)
              obtain ⟨k53, e53, hF⟩ := lett_some hF
              have J53 : ∀  (h_54 : AHeap), k53 h_54 = some (rR, hR) → Go w0 m0 (Func.ntmps Try.f38) (K50 .normal) [(0, t0), (1, t1), (2, .int .i64 t2), (6, .int .i64 t6), (7, (newP h_11)), (8, v29), (9, .int .i64 t9_48)] [] h_54 := by
                intro  h_54 hF
                rw [e53] at hF
                refine n50 ?_
                refine W.s (fun K55 n55 e55 q55 p55 => ?_)
                refine W.s (fun K56 n56 e56 q56 p56 => ?_)
                refine W.r ?_
                refine oA 62 (.int .i64 t9_48) ?_
                refine oA 63 v29 ?_
                refine oM 64 71 79 hF fun t64 hF => ?_
                refine oB 65 hF fun t65 hF => ?_
                refine oA 66 (.bool t65) ?_
                obtain ⟨j73, e60, hF⟩ := lett_some hF
                have J61 : ∀ (t73 : Bool) (h_59 : AHeap), j73 t73 h_59 = some (rR, hR) → WL Try.prog w0 m0 (Func.ntmps Try.f38) (Code.ops (Code.p1 (Code.p1 (Code.p2 (Code.p2 (Code.p2 (Code.p2 (Code.p2 (Code.p2 (Code.p1 (Code.p1 (Code.p2 (Code.p1 (Code.p1 (Code.p2 (Code.p1 (codeOf Try.f38))))))))))))))))) 12 K56 [(0, t0), (1, t1), (2, .int .i64 t2), (6, .int .i64 t6), (7, (newP h_11)), (8, v29), (9, .int .i64 t9_48), (73, .bool t73)] [] h_59 := by
                  intro t73 h_59 hF
                  rw [e60] at hF
                  refine oA 74 (.bool t73) ?_
                  obtain ⟨j82, e63, hF⟩ := lett_some hF
                  have J64 : ∀ (t82 : Bool) (h_62 : AHeap), j82 t82 h_62 = some (rR, hR) → WL Try.prog w0 m0 (Func.ntmps Try.f38) (Code.ops (Code.p1 (Code.p1 (Code.p2 (Code.p2 (Code.p2 (Code.p2 (Code.p2 (Code.p2 (Code.p1 (Code.p1 (Code.p2 (Code.p1 (Code.p1 (Code.p2 (Code.p1 (codeOf Try.f38))))))))))))))))) 21 K56 [(0, t0), (1, t1), (2, .int .i64 t2), (6, .int .i64 t6), (7, (newP h_11)), (8, v29), (9, .int .i64 t9_48), (82, .bool t82)] [] h_62 := by
                    intro t82 h_62 hF
                    rw [e63] at hF
                    refine oA 83 (.bool t82) ?_
                    obtain ⟨j86, e66, hF⟩ := lett_some hF
                    have J67 : ∀ (t86 : Bool) (h_65 : AHeap), j86 t86 h_65 = some (rR, hR) → WL Try.prog w0 m0 (Func.ntmps Try.f38) (Code.ops (Code.p1 (Code.p1 (Code.p2 (Code.p2 (Code.p2 (Code.p2 (Code.p2 (Code.p2 (Code.p1 (Code.p1 (Code.p2 (Code.p1 (Code.p1 (Code.p2 (Code.p1 (codeOf Try.f38))))))))))))))))) 25 K56 [(0, t0), (1, t1), (2, .int .i64 t2), (6, .int .i64 t6), (7, (newP h_11)), (8, v29), (9, .int .i64 t9_48), (86, .bool t86)] [] h_65 := by
                      intro t86 h_65 hF
                      rw [e66] at hF
                      refine oV [(0, t0), (1, t1), (2, .int .i64 t2), (6, .int .i64 t6), (7, (newP h_11)), (8, v29), (9, .int .i64 t9_48), (86, .bool t86)] (n56 ?_)
                      obtain ⟨k68, e68, hF⟩ := lett_some hF
                      have J68 : ∀  (h_69 : AHeap), k68 h_69 = some (rR, hR) → Go w0 m0 (Func.ntmps Try.f38) (K55 .normal) [(0, t0), (1, t1), (2, .int .i64 t2), (6, .int .i64 t6), (7, (newP h_11))] [] h_69 := by
                        intro  h_69 hF
                        rw [e68] at hF
                        refine n55 ?_
                        refine W.draw (by kernel_rfl) (hc.ok w0) (plan := [0, 1, 2, 3, 4, 5, 6, 7]) (by kernel_rfl) (by kernel_rfl) (by kernel_rfl) ?_
                        refine WD.a 0 (some 114) t0 h_69 ?_
                        refine WD.a 0 (some 115) (.int .i64 t6) h_69 ?_
                        obtain ⟨t116, e70, hF⟩ := obind_some hF
                        refine WD.b 1 (some 116) (.agg t116) h_69 (load_row (P := Try.prog) (h := h_69) (t := 70) (by kernel_rfl) (by kernel_rfl) e70) ?_
                        obtain ⟨t117, e71, hF⟩ := obind_some hF
                        refine WD.val (d := (some 117)) (v := .agg t117) (h' := h_69) (by kernel_rfl) (by kernel_rfl) (bld_ok (by kernel_rfl) e71) (k := 0) (by kernel_rfl) (fun e => absurd e (by decide)) (by decide) ?_
                        obtain ⟨t118, e72, hF⟩ := obind_some hF
                        refine WD.b 0 (some 118) t118 h_69 (nil_chk (h := h_69) e72) ?_
                        obtain ⟨t119, e73, hF⟩ := obind_some hF
                        refine WD.b 0 (some 119) t119 h_69 (field_ptr (P := Try.prog) (h := h_69) (s := 76) (f := 0) (by kernel_rfl) e73) ?_
                        obtain ⟨t120, e74, hF⟩ := obind_some hF
                        refine WD.b 0 (some 120) t120 h_69 (index_arr (P := Try.prog) (h := h_69) (t := 74) (e' := 73) (k := .i64) (by kernel_rfl) (by kernel_rfl) (by kernel_rfl) e74) ?_
                        obtain ⟨h_75, e76, hF⟩ := obind_some hF
                        refine WD.eff (h' := h_75) (by kernel_rfl) (by kernel_rfl) (Eq.trans (by kernel_rfl) (store_row (P := Try.prog) (h := h_69) (t := 73) (v := (.agg t117)) (by kernel_rfl) (by kernel_rfl) e76)) (k := 2) (by kernel_rfl) (fun _ => (by kernel_rfl)) (by decide) ?_
                        refine WD.nil ?_
                        refine gW [(0, t0), (1, t1), (2, .int .i64 t2), (6, .int .i64 t6)] (n16 (n15 (W.r ?_)))
                        refine oA 14 (.int .i64 t6) ?_
                        refine oI 15 .i64 hF fun t15 hF => ?_
                        refine oA 6 (.int .i64 t15) ?_
                        refine oV [(0, t0), (1, t1), (2, .int .i64 t2), (6, .int .i64 t15)] (n10 ?_)
                        exact gW _ (ih10 _ _ hF)
                      cases t86 with
                      | true =>
                        refine oT hF fun hF => ?_
                        refine oG fun n78 => W.r ?_
                        refine oA 87 (.int .i64 t2) ?_
                        refine oA 11 (.int .i64 t2) ?_
                        refine oV [(0, t0), (1, t1), (2, .int .i64 t2), (6, .int .i64 t6), (7, (newP h_11)), (8, v29), (9, .int .i64 t9_48), (11, .int .i64 t2)] (n78 ?_)
                        refine W.s (fun K79 n79 e79 q79 p79 => ?_)
                        refine oG fun n80 => W.r ?_
                        refine oA 88 (.int .i64 t2) ?_
                        refine oA 89 v29 ?_
                        refine oA 90 (.int .i64 t9_48) ?_
                        refine oP 91 71 79 .i64 hF fun t91 hF => ?_
                        refine oF 92 79 1 hF fun t92 hF => ?_
                        refine oLs 93 9 hF fun t93 hF => ?_
                        refine oA 94 (.int .i64 (lenS t93)) ?_
                        refine oI 95 .i64 hF fun t95 hF => ?_
                        refine oB 96 hF fun t96 hF => ?_
                        refine oV [(0, t0), (1, t1), (2, .int .i64 t2), (6, .int .i64 t6), (7, (newP h_11)), (8, v29), (9, .int .i64 t9_48), (11, .int .i64 t2), (96, .bool t96)] (n80 ?_)
                        obtain ⟨k87, e87, hF⟩ := lett_some hF
                        have J87 : ∀ (t11 : Int) (h_88 : AHeap), k87 t11 h_88 = some (rR, hR) → Go w0 m0 (Func.ntmps Try.f38) (K79 .normal) [(0, t0), (1, t1), (2, .int .i64 t2), (6, .int .i64 t6), (7, (newP h_11)), (8, v29), (9, .int .i64 t9_48), (11, .int .i64 t11)] [] h_88 := by
                          intro t11 h_88 hF
                          rw [e87] at hF
                          refine n79 ?_
                          refine W.draw (by kernel_rfl) (hc.ok w0) (plan := [0, 1, 2, 3, 4, 5, 6, 7, 8, 9, 10]) (by kernel_rfl) (by kernel_rfl) (by kernel_rfl) ?_
                          obtain ⟨t104, e89, hF⟩ := obind_some hF
                          refine WD.b 1 (some 104) (.agg t104) h_88 (load_row (P := Try.prog) (h := h_88) (t := 70) (by kernel_rfl) (by kernel_rfl) e89) ?_
                          refine WD.a 0 (some 105) v29 h_88 ?_
                          refine WD.a 0 (some 106) (.int .i64 t9_48) h_88 ?_
                          obtain ⟨t107, e90, hF⟩ := obind_some hF
                          refine WD.b 0 (some 107) t107 h_88 (index_row (P := Try.prog) (h := h_88) (t := 71) (e' := 79) (k := .i64) (by kernel_rfl) (by kernel_rfl) (by kernel_rfl) e90) ?_
                          obtain ⟨t108, e91, hF⟩ := obind_some hF
                          refine WD.b 0 (some 108) t108 h_88 (field_ptr (P := Try.prog) (h := h_88) (s := 79) (f := 1) (by kernel_rfl) e91) ?_
                          replace hF := obind_some hF; obtain ⟨v109, e92, hF⟩ := hF
                          replace hF := obind_some hF; obtain ⟨t109, c93, hF⟩ := hF
                          have c93 := avStr_some c93
                          subst c93
                          refine WD.b 1 (some 109) (strA t109) h_88 (load_cell (P := Try.prog) (h := h_88) (t := 9) (by kernel_rfl) e92) ?_
                          refine WD.a 0 (some 110) (.int .i64 t11) h_88 ?_
                          obtain ⟨t111, e94, hF⟩ := obind_some hF
                          refine WD.b 0 (some 111) (strA t111) h_88 (slice_str (P := Try.prog) (h := h_88) (t := 9) (A := none) (B := (some (.int .i64 t11))) (by kernel_rfl) (.inr ⟨rfl, rfl⟩) (.inl ⟨_, rfl⟩) e94) ?_
                          refine WD.a 0 (some 112) (.agg ([.int .i64 1, strA t111, .int .i64 0] : List AV)) h_88 ?_
                          replace hF := callN_some hF; obtain ⟨r113, h_95, e96, hF⟩ := hF
                          replace hF := obind_some hF; obtain ⟨t113, c97, hF⟩ := hF
                          have c97 := avAgg_some c97
                          subst c97
                          refine WD.call (d := (some 113)) (by kernel_rfl) (by kernel_rfl) (by kernel_rfl) e96 (k := 2) (by kernel_rfl) (fun _ => (by kernel_rfl)) (by decide) ?_
                          obtain ⟨h_98, e99, hF⟩ := obind_some hF
                          refine WD.eff (h' := h_98) (by kernel_rfl) (by kernel_rfl) (Eq.trans (by kernel_rfl) (store_row (P := Try.prog) (h := h_95) (t := 70) (v := (.agg t113)) (by kernel_rfl) (by kernel_rfl) e99)) (k := 2) (by kernel_rfl) (fun _ => (by kernel_rfl)) (by decide) ?_
                          refine WD.nil ?_
                          refine gW [(0, t0), (1, t1), (2, .int .i64 t2), (6, .int .i64 t6), (7, (newP h_11))] ?_
                          exact gW _ (J68 _ hF)
                        cases t96 with
                        | true =>
                          refine oT hF fun hF => ?_
                          refine W.r ?_
                          refine oA 97 v29 ?_
                          refine oA 98 (.int .i64 t9_48) ?_
                          refine oP 99 71 79 .i64 hF fun t99 hF => ?_
                          refine oF 100 79 1 hF fun t100 hF => ?_
                          refine oLs 101 9 hF fun t101 hF => ?_
                          refine oA 102 (.int .i64 (lenS t101)) ?_
                          refine oI 103 .i64 hF fun t103 hF => ?_
                          refine oA 11 (.int .i64 t103) ?_
                          refine oV [(0, t0), (1, t1), (2, .int .i64 t2), (6, .int .i64 t6), (7, (newP h_11)), (8, v29), (9, .int .i64 t9_48), (11, .int .i64 t103)] ?_
                          exact gW _ (J87 _ _ hF)
                        | false =>
                          refine oU hF fun hF => ?_
                          refine oZ ?_
                          exact gW _ (J87 _ _ hF)
                      | false =>
                        refine oU hF fun hF => ?_
                        refine oZ ?_
                        exact gW _ (J68 _ hF)
                    cases t82 with
                    | true =>
                      replace hF := ifB_t hF
                      refine oA 84 (.int .i64 t2) ?_
                      refine oB 85 hF fun t85 hF => ?_
                      refine oA 86 (.bool t85) ?_
                      exact lW _ (J67 _ _ hF)
                    | false =>
                      replace hF := ifB_f hF
                      refine WL.o (some 84) ?_
                      refine WL.o (some 85) ?_
                      refine oA 86 (.bool false) ?_
                      exact lW _ (J67 _ _ hF)
                  cases t73 with
                  | true =>
                    replace hF := ifB_t hF
                    refine oA 75 v29 ?_
                    refine oA 76 (.int .i64 t9_48) ?_
                    refine oP 77 71 79 .i64 hF fun t77 hF => ?_
                    refine oF 78 79 1 hF fun t78 hF => ?_
                    refine oLs 79 9 hF fun t79 hF => ?_
                    refine oA 80 (.int .i64 (lenS t79)) ?_
                    refine oB 81 hF fun t81 hF => ?_
                    refine oA 82 (.bool t81) ?_
                    exact lW _ (J64 _ _ hF)
                  | false =>
                    replace hF := ifB_f hF
                    refine WL.o (some 75) ?_
                    refine WL.o (some 76) ?_
                    refine WL.o (some 77) ?_
                    refine WL.o (some 78) ?_
                    refine WL.o (some 79) ?_
                    refine WL.o (some 80) ?_
                    refine WL.o (some 81) ?_
                    refine oA 82 (.bool false) ?_
                    exact lW _ (J64 _ _ hF)
                cases t65 with
                | true =>
                  replace hF := ifB_t hF
                  refine oA 67 v29 ?_
                  refine oA 68 (.int .i64 t9_48) ?_
                  refine oP 69 71 79 .i64 hF fun t69 hF => ?_
                  refine oF 70 79 0 hF fun t70 hF => ?_
                  refine oLi 71 3 hF fun t71 hF => ?_
                  refine oB 72 hF fun t72 hF => ?_
                  refine oA 73 (.bool t72) ?_
                  exact lW _ (J61 _ _ hF)
                | false =>
                  replace hF := ifB_f hF
                  refine WL.o (some 67) ?_
                  refine WL.o (some 68) ?_
                  refine WL.o (some 69) ?_
                  refine WL.o (some 70) ?_
                  refine WL.o (some 71) ?_
                  refine WL.o (some 72) ?_
                  refine oA 73 (.bool false) ?_
                  exact lW _ (J61 _ _ hF)
              refine W.blockK (by kernel_rfl) (fun K52 n52 s52 o52 q52 p52 => ?_)
              refine W.loopK (by kernel_rfl) (fun I116 K116 b116 n116 e116 q116 p116 => ?_)
              have L116 : ∀ (m : Nat) (t10 : Int) (h_117 : AHeap), ref04_Disk_Crash_L1 call h_11 v29 t9_48 k53 m t10 h_117 = some (rR, hR) → Go w0 m0 (Func.ntmps Try.f38) I116 [(0, t0), (1, t1), (2, .int .i64 t2), (6, .int .i64 t6), (7, (newP h_11)), (8, v29), (9, .int .i64 t9_48), (10, .int .i64 t10)] [] h_117 := by
                intro m
                induction m with
                | zero => intro t10 h_117 hF; cases hF
                | succ m ih116 =>
                  intro t10 h_117 hF
                  rw [ref04_Disk_Crash_L1_s] at hF; unfold ref04_Disk_Crash_L1b at hF
                  refine b116 ?_
                  refine W.s (fun K118 n118 e118 q118 p118 => ?_)
                  refine oG fun n119 => W.r ?_
                  refine oA 51 (.int .i64 t10) ?_
                  refine oA 52 (.int .i64 t9_48) ?_
                  refine oB 53 hF fun t53 hF => ?_
                  refine oV [(0, t0), (1, t1), (2, .int .i64 t2), (6, .int .i64 t6), (7, (newP h_11)), (8, v29), (9, .int .i64 t9_48), (10, .int .i64 t10), (53, .bool t53)] (n119 ?_)
                  cases t53 with
                  | true =>
                    refine oT hF fun hF => ?_
                    refine oZ (n118 ?_)
                    refine oG fun n121 => ?_
                    refine W.blockK (by kernel_rfl) (fun K122 n122 s122 o122 q122 p122 => ?_)
                    refine W.draw (by kernel_rfl) (hc.ok w0) (plan := [0, 1, 2, 3, 4, 5, 6]) (by kernel_rfl) (by kernel_rfl) (by kernel_rfl) ?_
                    obtain ⟨t56, e123, hF⟩ := obind_some hF
                    refine WD.b 1 (some 56) (.agg t56) h_117 (load_row (P := Try.prog) (h := h_117) (t := 70) (by kernel_rfl) (by kernel_rfl) e123) ?_
                    refine WD.a 0 (some 57) v29 h_117 ?_
                    refine WD.a 0 (some 58) (.int .i64 t10) h_117 ?_
                    obtain ⟨t59, e124, hF⟩ := obind_some hF
                    refine WD.b 0 (some 59) t59 h_117 (index_row (P := Try.prog) (h := h_117) (t := 71) (e' := 79) (k := .i64) (by kernel_rfl) (by kernel_rfl) (by kernel_rfl) e124) ?_
                    obtain ⟨t60, e125, hF⟩ := obind_some hF
                    refine WD.b 1 (some 60) (.agg t60) h_117 (load_row (P := Try.prog) (h := h_117) (t := 79) (by kernel_rfl) (by kernel_rfl) e125) ?_
                    replace hF := callN_some hF; obtain ⟨r61, h_126, e127, hF⟩ := hF
                    replace hF := obind_some hF; obtain ⟨t61, c128, hF⟩ := hF
                    have c128 := avAgg_some c128
                    subst c128
                    refine WD.call (d := (some 61)) (by kernel_rfl) (by kernel_rfl) (by kernel_rfl) e127 (k := 2) (by kernel_rfl) (fun _ => (by kernel_rfl)) (by decide) ?_
                    obtain ⟨h_129, e130, hF⟩ := obind_some hF
                    refine WD.eff (h' := h_129) (by kernel_rfl) (by kernel_rfl) (Eq.trans (by kernel_rfl) (store_row (P := Try.prog) (h := h_126) (t := 70) (v := (.agg t61)) (by kernel_rfl) (by kernel_rfl) e130)) (k := 2) (by kernel_rfl) (fun _ => (by kernel_rfl)) (by decide) ?_
                    refine WD.nil ?_
                    refine gW [(0, t0), (1, t1), (2, .int .i64 t2), (6, .int .i64 t6), (7, (newP h_11)), (8, v29), (9, .int .i64 t9_48), (10, .int .i64 t10)] (n122 (n121 (W.r ?_)))
                    refine oA 54 (.int .i64 t10) ?_
                    refine oI 55 .i64 hF fun t55 hF => ?_
                    refine oA 10 (.int .i64 t55) ?_
                    refine oV [(0, t0), (1, t1), (2, .int .i64 t2), (6, .int .i64 t6), (7, (newP h_11)), (8, v29), (9, .int .i64 t9_48), (10, .int .i64 t55)] (n116 ?_)
                    exact gW _ (ih116 _ _ hF)
                  | false =>
                    refine oU hF fun hF => ?_
                    refine W.exit (by kernel_rfl) ?_
                    refine e118 (e116 ?_)
                    refine s52 (by kernel_rfl) ?_
                    exact gW _ (J53 _ hF)
              exact gW _ (L116 _ _ _ hF)
            cases t48 with
            | true =>
              refine oT hF fun hF => ?_
              refine W.r ?_
              refine oA 49 v29 ?_
              refine oM 50 71 79 hF fun t50 hF => ?_
              refine oA 9 (.int .i64 t50) ?_
              refine oV [(0, t0), (1, t1), (2, .int .i64 t2), (6, .int .i64 t6), (7, (newP h_11)), (8, v29), (9, .int .i64 t50)] ?_
              exact gW _ (J47 _ _ hF)
            | false =>
              refine oU hF fun hF => ?_
              refine oZ ?_
              exact gW _ (J47 _ _ hF)
          cases t40 with
          | true =>
            refine oT hF fun hF => ?_
            refine W.r ?_
            refine oA 41 t1 ?_
            refine oA 42 (.int .i64 t6) ?_
            refine oP 43 34 3 .i64 hF fun t43 hF => ?_
            refine oLi 44 3 hF fun t44 hF => ?_
            refine oA 9 (.int .i64 t44) ?_
            refine oV [(0, t0), (1, t1), (2, .int .i64 t2), (6, .int .i64 t6), (7, (newP h_11)), (8, v29), (9, .int .i64 t44)] ?_
            exact gW _ (J41 _ _ hF)
          | false =>
            refine oU hF fun hF => ?_
            refine oZ ?_
            exact gW _ (J41 _ _ hF)
        cases t33 with
        | true =>
          replace hF := ifB_t hF
          refine oA 35 t1 ?_
          refine oA 36 (.int .i64 t6) ?_
          refine oP 37 34 3 .i64 hF fun t37 hF => ?_
          refine oLi 38 3 hF fun t38 hF => ?_
          refine oB 39 hF fun t39 hF => ?_
          refine oA 40 (.bool t39) ?_
          exact lW _ (J40 _ _ hF)
        | false =>
          replace hF := ifB_f hF
          refine WL.o (some 35) ?_
          refine WL.o (some 36) ?_
          refine WL.o (some 37) ?_
          refine WL.o (some 38) ?_
          refine WL.o (some 39) ?_
          refine oA 40 (.bool false) ?_
          exact lW _ (J40 _ _ hF)
      | false =>
        refine oU hF fun hF => ?_
        refine W.exit (by kernel_rfl) ?_
        refine e12 (e10 ?_)
        refine s3 (by kernel_rfl) ?_
        exact gW _ (J4 _ hF)
  exact gW _ (L10 _ _ _ hF)
noncomputable def ref04_Disk_Read (call : CallF) (_ : Nat) (t0 : AV) (t1 : Int) (h : AHeap) : R :=
  obind (nilC t0) fun t9 =>
  obind (fldP 96 t9) fun t10 =>
  obind (ldCell h t10) fun v11 =>
  obind (avInt .i64 v11) fun t11 =>
  lett ((t11 : Int) == 0) fun (t12 : Bool) =>
  ifB t12
  (
    some (.ret (.tup [strA ([] : Bytes), .int .i64 40]), h))
  (
    lett (decide (t1 < 0)) fun (t15 : Bool) =>
    lett (fun (t19 : Bool) (h_13 : AHeap) =>
      ifB t19
      (
        some (.ret (.tup [strA ([] : Bytes), .int .i64 2]), h_13))
      (
        callN (call 41 [t0, .int .i64 t1] h_13) fun r22 h_18 =>
        obind (avAgg r22) fun t22 =>
        lett (newH h_18 70 [.bool false, .str 0 0]) fun h_21 =>
        obind (stRow h_21 2 t22 (newP h_18)) fun h_23 =>
        obind (ldCell h_23 (AV.ptr (AHeap.next h_18) 0)) fun v24 =>
        obind (avBool v24) fun t24 =>
        lett (!t24) fun (t25 : Bool) =>
        ifB t25
        (
          some (.ret (.tup [strA ([] : Bytes), .int .i64 4]), h_23))
        (
          obind (ldCell h_23 (AV.ptr (AHeap.next h_18) 1)) fun v27 =>
          obind (avStr v27) fun t27 =>
          some (.ret (.tup [strA t27, .int .i64 0]), h_23)))) fun j19 =>
    ifB t15
    (
      j19 true h)
    (
      lett (decide (t1 ≥ 32)) fun (t18 : Bool) =>
      j19 t18 h))
set_option maxHeartbeats 4000000 in
set_option maxRecDepth 20000 in
theorem ref04_Disk_Read_ok {call : CallF} (hc : SaysAll Try.prog call) {n : Nat} {t0 : AV} {t1 : Int} {h : AHeap} {rR : ARes} {hR : AHeap} (hF : ref04_Disk_Read call n t0 t1 h = some (rR, hR)) : Says Try.prog 40 [t0, .int .i64 t1] h rR hR := by
  unfold ref04_Disk_Read at hF
  refine sO Try.func40 fun w0 m0 => ?_
  refine wW [(0, t0), (1, .int .i64 t1)] ?_
  refine oG fun n1 => W.r ?_
  refine oA 4 (strA ([] : Bytes)) ?_
  refine oA 5 (.int .i64 0) ?_
  refine oV [(0, t0), (1, .int .i64 t1)] (n1 ?_)
  refine oH fun n2 q2 => ?_
  refine W.blockK (by kernel_rfl) (fun K3 n3 s3 o3 q3 p3 => ?_)
  refine oG fun n4 => W.r ?_
  refine oA 8 t0 ?_
  refine oC0 9 hF fun t9 hF => ?_
  refine oF 10 76 1 hF fun t10 hF => ?_
  refine oLi 11 3 hF fun t11 hF => ?_
  refine oB 12 hF fun t12 hF => ?_
  refine oA 7 (.bool t12) ?_
  refine oV [(0, t0), (1, .int .i64 t1), (7, .bool t12)] (n4 ?_)
  cases t12 with
  | true =>
    refine oT hF fun hF => ?_
    refine oG fun n10 => W.r ?_
    refine oA 4 (strA ([] : Bytes)) ?_
    refine oA 5 (.int .i64 40) ?_
    refine oV [(4, strA ([] : Bytes)), (5, .int .i64 40)] (n10 (oY (q3 (q2 ?_))))
    exact lZ hF [.tmp 4, .tmp 5] [strA ([] : Bytes), .int .i64 40] (rT (rT res_nil))
  | false =>
    refine oU hF fun hF => ?_
    refine W.s (fun K11 n11 e11 q11 p11 => ?_)
    refine W.r ?_
    refine oA 14 (.int .i64 t1) ?_
    refine oB 15 hF fun t15 hF => ?_
    refine oA 16 (.bool t15) ?_
    obtain ⟨j19, e14, hF⟩ := lett_some hF
    have J15 : ∀ (t19 : Bool) (h_13 : AHeap), j19 t19 h_13 = some (rR, hR) → WL Try.prog w0 m0 (Func.ntmps Try.f40) (Code.ops (Code.p1 (Code.p2 (Code.p2 (Code.p1 (Code.p1 (Code.p2 (codeOf Try.f40)))))))) 6 K11 [(0, t0), (1, .int .i64 t1), (19, .bool t19)] [] h_13 := by
      intro t19 h_13 hF
      rw [e14] at hF
      refine oA 13 (.bool t19) ?_
      refine oV [(0, t0), (1, .int .i64 t1), (13, .bool t19)] (n11 ?_)
      cases t19 with
      | true =>
        refine oT hF fun hF => ?_
        refine oG fun n16 => W.r ?_
        refine oA 4 (strA ([] : Bytes)) ?_
        refine oA 5 (.int .i64 2) ?_
        refine oV [(4, strA ([] : Bytes)), (5, .int .i64 2)] (n16 (oY (q3 (q2 ?_))))
        exact lZ hF [.tmp 4, .tmp 5] [strA ([] : Bytes), .int .i64 2] (rT (rT res_nil))
      | false =>
        refine oU hF fun hF => ?_
        refine oZ (n3 (n2 ?_))
        refine oG fun n17 => W.r ?_
        refine oA 20 t0 ?_
        refine oA 21 (.int .i64 t1) ?_
        refine oCa hc 22 hF fun t22 h_18 hF => ?_
        refine oN 6 hF fun h_21 hF => ?_
        refine oW 70 (.agg t22) hF fun h_23 hF => ?_
        refine oV [(6, (newP h_18))] (n17 ?_)
        refine oH fun n25 q25 => ?_
        refine oG fun n26 => W.r ?_
        refine oA 23 (AV.ptr (AHeap.next h_18) 0) ?_
        refine oLb 24 4 hF fun t24 hF => ?_
        refine oB 25 hF fun t25 hF => ?_
        refine oV [(6, (newP h_18)), (25, .bool t25)] (n26 ?_)
        cases t25 with
        | true =>
          refine oT hF fun hF => ?_
          refine oG fun n30 => W.r ?_
          refine oA 4 (strA ([] : Bytes)) ?_
          refine oA 5 (.int .i64 4) ?_
          refine oV [(4, strA ([] : Bytes)), (5, .int .i64 4)] (n30 (oY (q25 ?_)))
          exact lZ hF [.tmp 4, .tmp 5] [strA ([] : Bytes), .int .i64 4] (rT (rT res_nil))
        | false =>
          refine oU hF fun hF => ?_
          refine oZ (n25 ?_)
          refine oG fun n31 => W.r ?_
          refine oA 26 (AV.ptr (AHeap.next h_18) 1) ?_
          refine oLs 27 9 hF fun t27 hF => ?_
          refine oA 4 (strA t27) ?_
          refine oA 5 (.int .i64 0) ?_
          refine oV [(4, strA t27), (5, .int .i64 0)] (n31 (oY ?_))
          exact lZ hF [.tmp 4, .tmp 5] [strA t27, .int .i64 0] (rT (rT res_nil))
    cases t15 with
    | true =>
      replace hF := ifB_t hF
      refine WL.o (some 17) ?_
      refine WL.o (some 18) ?_
      refine oA 19 (.bool true) ?_
      exact lW _ (J15 _ _ hF)
    | false =>
      replace hF := ifB_f hF
      refine oA 17 (.int .i64 t1) ?_
      refine oB 18 hF fun t18 hF => ?_
      refine oA 19 (.bool t18) ?_
      exact lW _ (J15 _ _ hF)
noncomputable def ref04_Disk_See (call : CallF) (_ : Nat) (t0 : AV) (t1 : Int) (h : AHeap) : R :=
  lett (newH h 70 [.bool false, .str 0 0]) fun h_2 =>
  lett (decide (t1 < 0)) fun (t6 : Bool) =>
  lett (fun (t10 : Bool) (h_7 : AHeap) =>
    ifB t10
    (
      obind (stRow h_7 2 ([.bool false, .str 0 0] : List AV) (newP h)) fun h_11 =>
      obind (ldRow h_11 2 (newP h)) fun w4 =>
      some (.ret (.agg w4), h_11))
    (
      obind (nilC t0) fun t14 =>
      obind (fldP 0 t14) fun t15 =>
      obind (idxA 32 3 t15 t1) fun t16 =>
      obind (ldRow h_7 3 t16) fun t17 =>
      callN (call 44 [.agg t17] h_7) fun r18 h_19 =>
      obind (avAgg r18) fun t18 =>
      obind (stRow h_19 2 t18 (newP h)) fun h_22 =>
      obind (ldRow h_22 2 (newP h)) fun w4_25 =>
      some (.ret (.agg w4_25), h_22))) fun j10 =>
  ifB t6
  (
    j10 true h_2)
  (
    lett (decide (t1 ≥ 32)) fun (t9 : Bool) =>
    j10 t9 h_2)
set_option maxHeartbeats 4000000 in
set_option maxRecDepth 20000 in
theorem ref04_Disk_See_ok {call : CallF} (hc : SaysAll Try.prog call) {n : Nat} {t0 : AV} {t1 : Int} {h : AHeap} {rR : ARes} {hR : AHeap} (hF : ref04_Disk_See call n t0 t1 h = some (rR, hR)) : Says Try.prog 41 [t0, .int .i64 t1] h rR hR := by
  unfold ref04_Disk_See at hF
  refine sO Try.func41 fun w0 m0 => ?_
  refine wW [(0, t0), (1, .int .i64 t1)] ?_
  refine oG fun n1 => W.r ?_
  refine oN 4 hF fun h_2 hF => ?_
  refine oV [(0, t0), (1, .int .i64 t1), (4, (newP h))] (n1 ?_)
  refine oH fun n4 q4 => ?_
  refine W.s (fun K5 n5 e5 q5 p5 => ?_)
  refine W.r ?_
  refine oA 5 (.int .i64 t1) ?_
  refine oB 6 hF fun t6 hF => ?_
  refine oA 7 (.bool t6) ?_
  obtain ⟨j10, e8, hF⟩ := lett_some hF
  have J9 : ∀ (t10 : Bool) (h_7 : AHeap), j10 t10 h_7 = some (rR, hR) → WL Try.prog w0 m0 (Func.ntmps Try.f41) (Code.ops (Code.p1 (Code.p1 (Code.p2 (codeOf Try.f41))))) 6 K5 [(0, t0), (1, .int .i64 t1), (4, (newP h)), (10, .bool t10)] [] h_7 := by
    intro t10 h_7 hF
    rw [e8] at hF
    refine oV [(0, t0), (1, .int .i64 t1), (4, (newP h)), (10, .bool t10)] (n5 ?_)
    cases t10 with
    | true =>
      refine oT hF fun hF => ?_
      refine oG fun n10 => W.r ?_
      refine oA 11 (.agg ([.bool false, .str 0 0] : List AV)) ?_
      refine oW 70 (.agg ([.bool false, .str 0 0] : List AV)) hF fun h_11 hF => ?_
      refine oV [(4, (newP h))] (n10 (oY (q4 ?_)))
      obtain ⟨w4, e13, hF⟩ := obind_some hF
      exact lZ hF [.cell 4 70] [.agg w4] (rY e13 res_nil)
    | false =>
      refine oU hF fun hF => ?_
      refine oZ (n4 ?_)
      refine oG fun n14 => W.r ?_
      refine oA 12 t0 ?_
      refine oA 13 (.int .i64 t1) ?_
      refine oC0 14 hF fun t14 hF => ?_
      refine oF 15 76 0 hF fun t15 hF => ?_
      refine oQ 16 74 73 .i64 hF fun t16 hF => ?_
      refine oR 17 73 hF fun t17 hF => ?_
      refine oCa hc 18 hF fun t18 h_19 hF => ?_
      refine oW 70 (.agg t18) hF fun h_22 hF => ?_
      refine oV [(4, (newP h))] (n14 (oY ?_))
      obtain ⟨w4_25, e24, hF⟩ := obind_some hF
      exact lZ hF [.cell 4 70] [.agg w4_25] (rY e24 res_nil)
  cases t6 with
  | true =>
    replace hF := ifB_t hF
    refine WL.o (some 8) ?_
    refine WL.o (some 9) ?_
    refine oA 10 (.bool true) ?_
    exact lW _ (J9 _ _ hF)
  | false =>
    replace hF := ifB_f hF
    refine oA 8 (.int .i64 t1) ?_
    refine oB 9 hF fun t9 hF => ?_
    refine oA 10 (.bool t9) ?_
    exact lW _ (J9 _ _ hF)
noncomputable def ref04_Disk_step (_ : CallF) (_ : Nat) (t0 : AV) (t1 : Int) (t2 : Int) (h : AHeap) : R :=
  obind (nilC t0) fun t9 =>
  obind (fldP 96 t9) fun t10 =>
  obind (ldCell h t10) fun v11 =>
  obind (avInt .i64 v11) fun t11 =>
  lett ((t11 : Int) == 0) fun (t12 : Bool) =>
  ifB t12
  (
    some (.ret (.int .i64 40), h))
  (
    lett (decide (t1 < 0)) fun (t15 : Bool) =>
    lett (fun (t19 : Bool) (h_13 : AHeap) =>
      ifB t19
      (
        some (.ret (.int .i64 2), h_13))
      (
        lett ((t2 : Int) != 0) fun (t22 : Bool) =>
        ifB t22
        (
          some (.ret (.int .i64 t2), h_13))
        (
          obind (nilC t0) fun t25 =>
          obind (fldP 96 t25) fun t26 =>
          obind (ldCell h_13 t26) fun v27 =>
          obind (avInt .i64 v27) fun t27 =>
          lett (decide (t27 > 0)) fun (t28 : Bool) =>
          lett (fun  (h_28 : AHeap) =>
            obind (nilC t0) fun t39 =>
            obind (fldP 97 t39) fun t40 =>
            obind (ldCell h_28 t40) fun v41 =>
            obind (avInt .i64 v41) fun t41 =>
            lett (IntKind.i64.wrap (t41 + 1)) fun (t42 : Int) =>
            obind (nilC t0) fun t43 =>
            obind (fldP 97 t43) fun t44 =>
            obind (stRow h_28 1 [.int .i64 t42] t44) fun h_37 =>
            some (.ret (.int .i64 0), h_37)) fun k27 =>
          ifB t28
          (
            obind (nilC t0) fun t31 =>
            obind (fldP 96 t31) fun t32 =>
            obind (ldCell h_13 t32) fun v33 =>
            obind (avInt .i64 v33) fun t33 =>
            lett (IntKind.i64.wrap (t33 - 1)) fun (t34 : Int) =>
            obind (nilC t0) fun t35 =>
            obind (fldP 96 t35) fun t36 =>
            obind (stRow h_13 1 [.int .i64 t34] t36) fun h_47 =>
            k27 h_47)
          (
            k27 h_13)))) fun j19 =>
    ifB t15
    (
      j19 true h)
    (
      lett (decide (t1 ≥ 32)) fun (t18 : Bool) =>
      j19 t18 h))
set_option maxHeartbeats 4000000 in
set_option maxRecDepth 20000 in
theorem ref04_Disk_step_ok {call : CallF} (_ : SaysAll Try.prog call) {n : Nat} {t0 : AV} {t1 : Int} {t2 : Int} {h : AHeap} {rR : ARes} {hR : AHeap} (hF : ref04_Disk_step call n t0 t1 t2 h = some (rR, hR)) : Says Try.prog 43 [t0, .int .i64 t1, .int .i64 t2] h rR hR := by
  unfold ref04_Disk_step at hF
  refine sO Try.func43 fun w0 m0 => ?_
  refine wW [(0, t0), (1, .int .i64 t1), (2, .int .i64 t2)] ?_
  refine oG fun n1 => W.r ?_
  refine oA 6 (.int .i64 0) ?_
  refine oV [(0, t0), (1, .int .i64 t1), (2, .int .i64 t2)] (n1 ?_)
  refine oH fun n2 q2 => ?_
  refine W.blockK (by kernel_rfl) (fun K3 n3 s3 o3 q3 p3 => ?_)
  refine oG fun n4 => W.r ?_
  refine oA 8 t0 ?_
  refine oC0 9 hF fun t9 hF => ?_
  refine oF 10 76 1 hF fun t10 hF => ?_
  refine oLi 11 3 hF fun t11 hF => ?_
  refine oB 12 hF fun t12 hF => ?_
  refine oA 7 (.bool t12) ?_
  refine oV [(0, t0), (1, .int .i64 t1), (2, .int .i64 t2), (7, .bool t12)] (n4 ?_)
  cases t12 with
  | true =>
    refine oT hF fun hF => ?_
    refine oG fun n10 => W.r ?_
    refine oA 6 (.int .i64 40) ?_
    refine oV [(6, .int .i64 40)] (n10 (oY (q3 (q2 ?_))))
    exact lZ hF [.tmp 6] [.int .i64 40] (rT res_nil)
  | false =>
    refine oU hF fun hF => ?_
    refine W.s (fun K11 n11 e11 q11 p11 => ?_)
    refine W.r ?_
    refine oA 14 (.int .i64 t1) ?_
    refine oB 15 hF fun t15 hF => ?_
    refine oA 16 (.bool t15) ?_
    obtain ⟨j19, e14, hF⟩ := lett_some hF
    have J15 : ∀ (t19 : Bool) (h_13 : AHeap), j19 t19 h_13 = some (rR, hR) → WL Try.prog w0 m0 (Func.ntmps Try.f43) (Code.ops (Code.p1 (Code.p2 (Code.p2 (Code.p1 (Code.p1 (Code.p2 (codeOf Try.f43)))))))) 6 K11 [(0, t0), (2, .int .i64 t2), (19, .bool t19)] [] h_13 := by
      intro t19 h_13 hF
      rw [e14] at hF
      refine oA 13 (.bool t19) ?_
      refine oV [(0, t0), (2, .int .i64 t2), (13, .bool t19)] (n11 ?_)
      cases t19 with
      | true =>
        refine oT hF fun hF => ?_
        refine oG fun n16 => W.r ?_
        refine oA 6 (.int .i64 2) ?_
        refine oV [(6, .int .i64 2)] (n16 (oY (q3 (q2 ?_))))
        exact lZ hF [.tmp 6] [.int .i64 2] (rT res_nil)
      | false =>
        refine oU hF fun hF => ?_
        refine oG fun n17 => W.r ?_
        refine oA 21 (.int .i64 t2) ?_
        refine oB 22 hF fun t22 hF => ?_
        refine oA 20 (.bool t22) ?_
        refine oV [(0, t0), (2, .int .i64 t2), (20, .bool t22)] (n17 ?_)
        cases t22 with
        | true =>
          refine oT hF fun hF => ?_
          refine oG fun n19 => W.r ?_
          refine oA 23 (.int .i64 t2) ?_
          refine oA 6 (.int .i64 t2) ?_
          refine oV [(6, .int .i64 t2)] (n19 (oY (q3 (q2 ?_))))
          exact lZ hF [.tmp 6] [.int .i64 t2] (rT res_nil)
        | false =>
          refine oU hF fun hF => ?_
          refine oZ (n3 (n2 ?_))
          refine W.s (fun K20 n20 e20 q20 p20 => ?_)
          refine oG fun n21 => W.r ?_
          refine oA 24 t0 ?_
          refine oC0 25 hF fun t25 hF => ?_
          refine oF 26 76 1 hF fun t26 hF => ?_
          refine oLi 27 3 hF fun t27 hF => ?_
          refine oB 28 hF fun t28 hF => ?_
          refine oV [(0, t0), (28, .bool t28)] (n21 ?_)
          obtain ⟨k27, e27, hF⟩ := lett_some hF
          have J27 : ∀  (h_28 : AHeap), k27 h_28 = some (rR, hR) → Go w0 m0 (Func.ntmps Try.f43) (K20 .normal) [(0, t0)] [] h_28 := by
            intro  h_28 hF
            rw [e27] at hF
            refine n20 ?_
            refine oG fun n29 => W.r ?_
            refine oA 37 t0 ?_
            refine oA 38 t0 ?_
            refine oC0 39 hF fun t39 hF => ?_
            refine oF 40 76 2 hF fun t40 hF => ?_
            refine oLi 41 3 hF fun t41 hF => ?_
            refine oI 42 .i64 hF fun t42 hF => ?_
            refine oC0 43 hF fun t43 hF => ?_
            refine oF 44 76 2 hF fun t44 hF => ?_
            refine oW 3 (.int .i64 t42) hF fun h_37 hF => ?_
            refine oV [] (n29 ?_)
            refine oG fun n39 => W.r ?_
            refine oA 6 (.int .i64 0) ?_
            refine oV [(6, .int .i64 0)] (n39 (oY ?_))
            exact lZ hF [.tmp 6] [.int .i64 0] (rT res_nil)
          cases t28 with
          | true =>
            refine oT hF fun hF => ?_
            refine W.r ?_
            refine oA 29 t0 ?_
            refine oA 30 t0 ?_
            refine oC0 31 hF fun t31 hF => ?_
            refine oF 32 76 1 hF fun t32 hF => ?_
            refine oLi 33 3 hF fun t33 hF => ?_
            refine oI 34 .i64 hF fun t34 hF => ?_
            refine oC0 35 hF fun t35 hF => ?_
            refine oF 36 76 1 hF fun t36 hF => ?_
            refine oW 3 (.int .i64 t34) hF fun h_47 hF => ?_
            refine oV [(0, t0)] ?_
            exact gW _ (J27 _ hF)
          | false =>
            refine oU hF fun hF => ?_
            refine oZ ?_
            exact gW _ (J27 _ hF)
    cases t15 with
    | true =>
      replace hF := ifB_t hF
      refine WL.o (some 17) ?_
      refine WL.o (some 18) ?_
      refine oA 19 (.bool true) ?_
      exact lW _ (J15 _ _ hF)
    | false =>
      replace hF := ifB_f hF
      refine oA 17 (.int .i64 t1) ?_
      refine oB 18 hF fun t18 hF => ?_
      refine oA 19 (.bool t18) ?_
      exact lW _ (J15 _ _ hF)
noncomputable def ref04_Seen_L0b (call : CallF) (v1 : AV) (h_4 : AHeap) (k16 : AHeap → R) (self : Int → AHeap → R) (t4 : Int) (h_24 : AHeap) : R :=
  obind (fldP 2 v1) fun t8 =>
  obind (ldCell h_24 t8) fun v9 =>
  obind (lenL v9) fun t10 =>
  lett (decide (t4 < t10)) fun (t11 : Bool) =>
  ifB t11
  (
    obind (ldRow h_24 2 (newP h_4)) fun t14 =>
    obind (fldP 2 v1) fun t15 =>
    obind (ldCell h_24 t15) fun v16 =>
    obind (idxP 3 v16 t4) fun t18 =>
    obind (ldRow h_24 3 t18) fun t19 =>
    callN (call 45 [.agg t14, .agg t19] h_24) fun r20 h_38 =>
    obind (avAgg r20) fun t20 =>
    obind (stRow h_38 2 t20 (newP h_4)) fun h_41 =>
    lett (IntKind.i64.wrap (t4 + 1)) fun (t13 : Int) =>
    self t13 h_41)
  (
    k16 h_24)
noncomputable def ref04_Seen_L0 (call : CallF) (v1 : AV) (h_4 : AHeap) (k16 : AHeap → R) : Nat → Int → AHeap → R := iterR (fun _ _ => none) (ref04_Seen_L0b call v1 h_4 k16)
theorem ref04_Seen_L0_s (call : CallF) (v1 : AV) (h_4 : AHeap) (k16 : AHeap → R) (m : Nat) : ref04_Seen_L0 call v1 h_4 k16 (m + 1) = ref04_Seen_L0b call v1 h_4 k16 (ref04_Seen_L0 call v1 h_4 k16 m) := rfl
noncomputable def ref04_Seen (call : CallF) (n : Nat) (t0 : List AV) (h : AHeap) : R :=
  outK (opBox h 73 (some (.agg t0))) fun v1 h_2 =>
  lett (newH h_2 70 [.bool false, .str 0 0]) fun h_4 =>
  obind (fldP 0 v1) fun t5 =>
  obind (ldRow h_4 2 t5) fun t6 =>
  lett (newH h_4 70 [.bool false, .str 0 0]) fun h_9 =>
  obind (stRow h_9 2 t6 (newP h_4)) fun h_11 =>
  lett (fun  (h_17 : AHeap) =>
    obind (ldRow h_17 2 (newP h_4)) fun t21 =>
    obind (stRow h_17 2 t21 (newP h_2)) fun h_20 =>
    obind (ldRow h_20 2 (newP h_2)) fun w2 =>
    some (.ret (.agg w2), h_20)) fun k16 =>
  ref04_Seen_L0 call v1 h_4 k16 n 0 h_11
set_option maxHeartbeats 4000000 in
set_option maxRecDepth 20000 in
theorem ref04_Seen_ok {call : CallF} (hc : SaysAll Try.prog call) {n : Nat} {t0 : List AV} {h : AHeap} {rR : ARes} {hR : AHeap} (hF : ref04_Seen call n t0 h = some (rR, hR)) : Says Try.prog 44 [.agg t0] h rR hR := by
  unfold ref04_Seen at hF
  refine sO Try.func44 fun w0 m0 => ?_
  refine wW [(0, .agg t0)] ?_
  refine oG fun n1 => W.r ?_
  refine oK 1 hF fun v1 h_2 hF => ?_
  refine oN 2 hF fun h_4 hF => ?_
  refine oV [(1, v1), (2, (newP h_2))] (n1 ?_)
  refine oG fun n6 => W.r ?_
  refine oF 5 73 0 hF fun t5 hF => ?_
  refine oR 6 70 hF fun t6 hF => ?_
  refine oN 3 hF fun h_9 hF => ?_
  refine oW 70 (.agg t6) hF fun h_11 hF => ?_
  refine oV [(1, v1), (2, (newP h_2)), (3, (newP h_4))] (n6 ?_)
  refine W.s (fun K13 n13 e13 q13 p13 => ?_)
  refine oG fun n14 => W.r ?_
  refine oA 4 (.int .i64 0) ?_
  refine oV [(1, v1), (2, (newP h_2)), (3, (newP h_4)), (4, .int .i64 0)] (n14 ?_)
  obtain ⟨k16, e16, hF⟩ := lett_some hF
  have J16 : ∀  (h_17 : AHeap), k16 h_17 = some (rR, hR) → Go w0 m0 (Func.ntmps Try.f44) (K13 .normal) [(2, (newP h_2)), (3, (newP h_4))] [] h_17 := by
    intro  h_17 hF
    rw [e16] at hF
    refine n13 ?_
    refine oG fun n18 => W.r ?_
    refine oR 21 70 hF fun t21 hF => ?_
    refine oW 70 (.agg t21) hF fun h_20 hF => ?_
    refine oV [(2, (newP h_2))] (n18 (oY ?_))
    obtain ⟨w2, e22, hF⟩ := obind_some hF
    exact lZ hF [.cell 2 70] [.agg w2] (rY e22 res_nil)
  refine W.blockK (by kernel_rfl) (fun K15 n15 s15 o15 q15 p15 => ?_)
  refine W.loopK (by kernel_rfl) (fun I23 K23 b23 n23 e23 q23 p23 => ?_)
  have L23 : ∀ (m : Nat) (t4 : Int) (h_24 : AHeap), ref04_Seen_L0 call v1 h_4 k16 m t4 h_24 = some (rR, hR) → Go w0 m0 (Func.ntmps Try.f44) I23 [(1, v1), (2, (newP h_2)), (3, (newP h_4)), (4, .int .i64 t4)] [] h_24 := by
    intro m
    induction m with
    | zero => intro t4 h_24 hF; cases hF
    | succ m ih23 =>
      intro t4 h_24 hF
      rw [ref04_Seen_L0_s] at hF; unfold ref04_Seen_L0b at hF
      refine b23 ?_
      refine W.s (fun K25 n25 e25 q25 p25 => ?_)
      refine oG fun n26 => W.r ?_
      refine oA 7 (.int .i64 t4) ?_
      refine oF 8 73 1 hF fun t8 hF => ?_
      refine oL 9 71 hF fun v9 hF => ?_
      refine oM 10 71 79 hF fun t10 hF => ?_
      refine oB 11 hF fun t11 hF => ?_
      refine oV [(1, v1), (2, (newP h_2)), (3, (newP h_4)), (4, .int .i64 t4), (11, .bool t11)] (n26 ?_)
      cases t11 with
      | true =>
        refine oT hF fun hF => ?_
        refine oZ (n25 ?_)
        refine oG fun n31 => ?_
        refine W.blockK (by kernel_rfl) (fun K32 n32 s32 o32 q32 p32 => ?_)
        refine W.draw (by kernel_rfl) (hc.ok w0) (plan := [0, 1, 2, 3, 4, 5, 6, 7]) (by kernel_rfl) (by kernel_rfl) (by kernel_rfl) ?_
        obtain ⟨t14, e33, hF⟩ := obind_some hF
        refine WD.b 1 (some 14) (.agg t14) h_24 (load_row (P := Try.prog) (h := h_24) (t := 70) (by kernel_rfl) (by kernel_rfl) e33) ?_
        obtain ⟨t15, e34, hF⟩ := obind_some hF
        refine WD.b 0 (some 15) t15 h_24 (field_ptr (P := Try.prog) (h := h_24) (s := 73) (f := 1) (by kernel_rfl) e34) ?_
        obtain ⟨v16, e35, hF⟩ := obind_some hF
        refine WD.b 1 (some 16) v16 h_24 (load_cell (P := Try.prog) (h := h_24) (t := 71) (by kernel_rfl) e35) ?_
        refine WD.a 0 (some 17) (.int .i64 t4) h_24 ?_
        obtain ⟨t18, e36, hF⟩ := obind_some hF
        refine WD.b 0 (some 18) t18 h_24 (index_row (P := Try.prog) (h := h_24) (t := 71) (e' := 79) (k := .i64) (by kernel_rfl) (by kernel_rfl) (by kernel_rfl) e36) ?_
        obtain ⟨t19, e37, hF⟩ := obind_some hF
        refine WD.b 1 (some 19) (.agg t19) h_24 (load_row (P := Try.prog) (h := h_24) (t := 79) (by kernel_rfl) (by kernel_rfl) e37) ?_
        replace hF := callN_some hF; obtain ⟨r20, h_38, e39, hF⟩ := hF
        replace hF := obind_some hF; obtain ⟨t20, c40, hF⟩ := hF
        have c40 := avAgg_some c40
        subst c40
        refine WD.call (d := (some 20)) (by kernel_rfl) (by kernel_rfl) (by kernel_rfl) e39 (k := 2) (by kernel_rfl) (fun _ => (by kernel_rfl)) (by decide) ?_
        obtain ⟨h_41, e42, hF⟩ := obind_some hF
        refine WD.eff (h' := h_41) (by kernel_rfl) (by kernel_rfl) (Eq.trans (by kernel_rfl) (store_row (P := Try.prog) (h := h_38) (t := 70) (v := (.agg t20)) (by kernel_rfl) (by kernel_rfl) e42)) (k := 2) (by kernel_rfl) (fun _ => (by kernel_rfl)) (by decide) ?_
        refine WD.nil ?_
        refine gW [(1, v1), (2, (newP h_2)), (3, (newP h_4)), (4, .int .i64 t4)] (n32 (n31 (W.r ?_)))
        refine oA 12 (.int .i64 t4) ?_
        refine oI 13 .i64 hF fun t13 hF => ?_
        refine oA 4 (.int .i64 t13) ?_
        refine oV [(1, v1), (2, (newP h_2)), (3, (newP h_4)), (4, .int .i64 t13)] (n23 ?_)
        exact gW _ (ih23 _ _ hF)
      | false =>
        refine oU hF fun hF => ?_
        refine W.exit (by kernel_rfl) ?_
        refine e25 (e23 ?_)
        refine s15 (by kernel_rfl) ?_
        exact gW _ (J16 _ hF)
  exact gW _ (L23 _ _ _ hF)
noncomputable def ref04_Done (_ : CallF) (_ : Nat) (t0 : List AV) (t1 : List AV) (h : AHeap) : R :=
  outK (opBox h 70 (some (.agg t0))) fun v2 h_2 =>
  outK (opBox h_2 79 (some (.agg t1))) fun v3 h_4 =>
  lett (newH h_4 70 [.bool false, .str 0 0]) fun h_6 =>
  obind (fldP 0 v3) fun t5 =>
  obind (ldCell h_6 t5) fun v6 =>
  obind (avInt .i64 v6) fun t6 =>
  lett ((t6 : Int) == 1) fun (t8 : Bool) =>
  ifB t8
  (
    obind (fldP 1 v2) fun t9 =>
    obind (ldCell h_6 t9) fun v10 =>
    obind (avStr v10) fun t10 =>
    obind (fldP 1 v3) fun t11 =>
    obind (ldCell h_6 t11) fun v12 =>
    obind (avStr v12) fun t12 =>
    obind (addS t10 t12) fun t13 =>
    obind (stRow h_6 2 ([.bool true, strA t13] : List AV) (newP h_4)) fun h_24 =>
    obind (ldRow h_24 2 (newP h_4)) fun w4 =>
    some (.ret (.agg w4), h_24))
  (
    lett ((t6 : Int) == 2) fun (t16 : Bool) =>
    ifB t16
    (
      obind (fldP 1 v2) fun t17 =>
      obind (ldCell h_6 t17) fun v18 =>
      obind (avStr v18) fun t18 =>
      obind (fldP 2 v3) fun t19 =>
      obind (ldCell h_6 t19) fun v20 =>
      obind (avInt .i64 v20) fun t20 =>
      obind (sliceS t18 0 t20) fun t21 =>
      obind (stRow h_6 2 ([.bool true, strA t21] : List AV) (newP h_4)) fun h_37 =>
      obind (ldRow h_37 2 (newP h_4)) fun w4_40 =>
      some (.ret (.agg w4_40), h_37))
    (
      obind (stRow h_6 2 ([.bool false, .str 0 0] : List AV) (newP h_4)) fun h_42 =>
      obind (ldRow h_42 2 (newP h_4)) fun w4_45 =>
      some (.ret (.agg w4_45), h_42)))
set_option maxHeartbeats 4000000 in
set_option maxRecDepth 20000 in
theorem ref04_Done_ok {call : CallF} (_ : SaysAll Try.prog call) {n : Nat} {t0 : List AV} {t1 : List AV} {h : AHeap} {rR : ARes} {hR : AHeap} (hF : ref04_Done call n t0 t1 h = some (rR, hR)) : Says Try.prog 45 [.agg t0, .agg t1] h rR hR := by
  unfold ref04_Done at hF
  refine sO Try.func45 fun w0 m0 => ?_
  refine wW [(0, .agg t0), (1, .agg t1)] ?_
  refine oG fun n1 => W.r ?_
  refine oK 2 hF fun v2 h_2 hF => ?_
  refine oK 3 hF fun v3 h_4 hF => ?_
  refine oN 4 hF fun h_6 hF => ?_
  refine oV [(2, v2), (3, v3), (4, (newP h_4))] (n1 ?_)
  refine oH fun n8 q8 => ?_
  refine oG fun n9 => W.r ?_
  refine oF 5 79 0 hF fun t5 hF => ?_
  refine oLi 6 3 hF fun t6 hF => ?_
  refine oV [(2, v2), (3, v3), (4, (newP h_4)), (6, .int .i64 t6)] (n9 ?_)
  refine W.blockK (by kernel_rfl) (fun K13 n13 s13 o13 q13 p13 => ?_)
  refine oG fun n14 => W.r ?_
  refine oB 8 hF fun t8 hF => ?_
  refine oA 7 (.bool t8) ?_
  refine oV [(2, v2), (3, v3), (4, (newP h_4)), (6, .int .i64 t6), (7, .bool t8)] (n14 ?_)
  cases t8 with
  | true =>
    refine oT hF fun hF => ?_
    refine oG fun n16 => W.r ?_
    refine oF 9 70 1 hF fun t9 hF => ?_
    refine oLs 10 9 hF fun t10 hF => ?_
    refine oF 11 79 1 hF fun t11 hF => ?_
    refine oLs 12 9 hF fun t12 hF => ?_
    obtain ⟨t13, e23, hF⟩ := obind_some hF
    refine WL.b (some 13) (strA t13) h_6 (add_str (P := Try.prog) (h := h_6) (t := 9) (lit := false) e23) ?_
    refine oA 14 (.agg ([.bool true, strA t13] : List AV)) ?_
    refine oW 70 (.agg ([.bool true, strA t13] : List AV)) hF fun h_24 hF => ?_
    refine oV [(4, (newP h_4))] (n16 (oY (q13 (q8 ?_))))
    obtain ⟨w4, e26, hF⟩ := obind_some hF
    exact lZ hF [.cell 4 70] [.agg w4] (rY e26 res_nil)
  | false =>
    refine oU hF fun hF => ?_
    refine oG fun n27 => W.r ?_
    refine oB 16 hF fun t16 hF => ?_
    refine oA 15 (.bool t16) ?_
    refine oV [(2, v2), (3, v3), (4, (newP h_4)), (15, .bool t16)] (n27 ?_)
    cases t16 with
    | true =>
      refine oT hF fun hF => ?_
      refine oG fun n29 => W.r ?_
      refine oF 17 70 1 hF fun t17 hF => ?_
      refine oLs 18 9 hF fun t18 hF => ?_
      refine oF 19 79 2 hF fun t19 hF => ?_
      refine oLi 20 3 hF fun t20 hF => ?_
      obtain ⟨t21, e36, hF⟩ := obind_some hF
      refine WL.b (some 21) (strA t21) h_6 (slice_str (P := Try.prog) (h := h_6) (t := 9) (A := none) (B := (some (.int .i64 t20))) (by kernel_rfl) (.inr ⟨rfl, rfl⟩) (.inl ⟨_, rfl⟩) e36) ?_
      refine oA 22 (.agg ([.bool true, strA t21] : List AV)) ?_
      refine oW 70 (.agg ([.bool true, strA t21] : List AV)) hF fun h_37 hF => ?_
      refine oV [(4, (newP h_4))] (n29 (oY (q13 (q8 ?_))))
      obtain ⟨w4_40, e39, hF⟩ := obind_some hF
      exact lZ hF [.cell 4 70] [.agg w4_40] (rY e39 res_nil)
    | false =>
      refine oU hF fun hF => ?_
      refine oZ (n13 (n8 ?_))
      refine oG fun n41 => W.r ?_
      refine oA 23 (.agg ([.bool false, .str 0 0] : List AV)) ?_
      refine oW 70 (.agg ([.bool false, .str 0 0] : List AV)) hF fun h_42 hF => ?_
      refine oV [(4, (newP h_4))] (n41 (oY ?_))
      obtain ⟨w4_45, e44, hF⟩ := obind_some hF
      exact lZ hF [.cell 4 70] [.agg w4_45] (rY e44 res_nil)
end Go.Proofs.Ytcbnpdfingfmgaa
