/- Plain functions in place of the program's, and that their calls come to what they say. -/
import Derived.Test.YthdkfofkghpmcaaFrame
import Derived.Test.YthdkfofkghpmcaaAbs54
namespace Go.Proofs.Ythdkfofkghpmcaa
open Go.RowKit Abs

noncomputable def law05_NetPlays_L0b (call : CallF) (t0 : AV) (h_16 : AHeap) (k26 : AHeap → R) (self : AV → Int → AHeap → R) (t3 : AV) (t5 : Int) (h_30 : AHeap) : R :=
  obind (lenL t0) fun t18 =>
  lett (decide (t5 < t18)) fun (t19 : Bool) =>
  ifB t19
  (
    obind (idxP 4 t0 t5) fun t26 =>
    obind (ldRow h_30 4 t26) fun t27 =>
    callN (call 12 [t3, .agg t27] h_30) fun r28 h_40 =>
    obind (extT 0 r28) fun v29 =>
    obind (extT 1 r28) fun v30 =>
    obind (avAgg v30) fun t30 =>
    lett (newH h_40 35 [.int .i64 0, .int .i64 0, .int .i64 0, .int .i64 0, .str 0 0, .int .i64 0]) fun h_45 =>
    obind (stRow h_45 6 t30 (newP h_40)) fun h_47 =>
    obind (ldRow h_47 3 (newP h_16)) fun t32 =>
    obind (idxP 4 t0 t5) fun t35 =>
    obind (ldRow h_47 4 t35) fun t36 =>
    lett (newH h_47 30 [.nsl, .nsl, .int .i64 0]) fun h_53 =>
    lett (newH h_53 35 [.int .i64 0, .int .i64 0, .int .i64 0, .int .i64 0, .str 0 0, .int .i64 0]) fun h_55 =>
    callN (call 13 [.agg t32, .agg t36] h_55) fun r37 h_57 =>
    chk (rowSame h_57 (AHeap.next h_53) 35 [.int .i64 0, .int .i64 0, .int .i64 0, .int .i64 0, .str 0 0, .int .i64 0] && (rowSame h_57 (AHeap.next h_47) 30 [.nsl, .nsl, .int .i64 0] && (true && (true && true)))) <|
    obind (extT 0 r37) fun v38 =>
    obind (avAgg v38) fun t38 =>
    obind (extT 1 r37) fun v39 =>
    obind (avAgg v39) fun t39 =>
    obind (stRow h_57 3 t38 (newP h_47)) fun h_64 =>
    obind (stRow h_64 6 t39 (newP h_53)) fun h_66 =>
    obind (ldRow h_66 3 (newP h_47)) fun t41 =>
    obind (stRow h_66 3 t41 (newP h_16)) fun h_70 =>
    lett (fun (t56 : Bool) (h_74 : AHeap) =>
      ifB t56
      (
        some (.ret (.bool false), h_74))
      (
        lett (IntKind.i64.wrap (t5 + 1)) fun (t21 : Int) =>
        self v29 t21 h_74)) fun k73 =>
    outK (opBin Try.prog h_70 .eql 25 true (some v29) (some AV.nilp)) fun v43 h_77 =>
    obind (avBool v43) fun t43 =>
    ifB t43
    (
      k73 true h_77)
    (
      obind (ldRow h_77 6 (newP h_40)) fun t45 =>
      obind (ldRow h_77 6 (newP h_53)) fun t46 =>
      obind (eqOther Try.prog 35 (.agg t45) (.agg t46)) fun t47 =>
      lett (!t47) fun (t47_83 : Bool) =>
      ifB t47_83
      (
        k73 true h_77)
      (
        obind (ldCell h_77 (AV.ptr (AHeap.next h_16) 0)) fun v53 =>
        callN (call 15 [v29] h_77) fun r51 h_86 =>
        chk (reLoad Try.prog h_86 27 (AV.ptr (AHeap.next h_16) 0) v53 && (true && (true && true))) <|
        callN (call 14 [r51, v53] h_86) fun r54 h_89 =>
        obind (avBool r54) fun t54 =>
        lett (!t54) fun (t55 : Bool) =>
        k73 t55 h_89)))
  (
    k26 h_30)
noncomputable def law05_NetPlays_L0 (call : CallF) (t0 : AV) (h_16 : AHeap) (k26 : AHeap → R) : Nat → AV → Int → AHeap → R := iterR (fun _ _ _ => none) (law05_NetPlays_L0b call t0 h_16 k26)
theorem law05_NetPlays_L0_s (call : CallF) (t0 : AV) (h_16 : AHeap) (k26 : AHeap → R) (m : Nat) : law05_NetPlays_L0 call t0 h_16 k26 (m + 1) = law05_NetPlays_L0b call t0 h_16 k26 (law05_NetPlays_L0 call t0 h_16 k26 m) := rfl
noncomputable def law05_NetPlays (call : CallF) (n : Nat) (t0 : AV) (h : AHeap) : R :=
  callN (call 9 [] h) fun r10 h_4 =>
  obind (avBool r10) fun t10 =>
  lett (!t10) fun (t11 : Bool) =>
  ifB t11
  (
    some (.ret (.bool false), h_4))
  (
    callN (call 10 [t0] h_4) fun r13 h_11 =>
    obind (avBool r13) fun t13 =>
    ifB t13
    (
      some (.ret (.bool true), h_11))
    (
      callN (call 11 [] h_11) fun r14 h_16 =>
      lett (newH h_16 30 [.nsl, .nsl, .int .i64 0]) fun h_19 =>
      obind (stRow h_19 3 ([.nsl, .nsl, .int .i64 0] : List AV) (newP h_16)) fun h_21 =>
      lett (fun  (h_27 : AHeap) =>
        some (.ret (.bool true), h_27)) fun k26 =>
      law05_NetPlays_L0 call t0 h_16 k26 n r14 0 h_21))
set_option maxHeartbeats 4000000 in
set_option maxRecDepth 20000 in
theorem law05_NetPlays_ok {call : CallF} (hc : SaysAll Try.prog call) {n : Nat} {t0 : AV} {h : AHeap} {rR : ARes} {hR : AHeap} (hF : law05_NetPlays call n t0 h = some (rR, hR)) : Says Try.prog 3 [t0] h rR hR := by
  unfold law05_NetPlays at hF
  refine sO Try.func3 fun w0 m0 => ?_
  refine wW [(0, t0)] ?_
  refine oG fun n1 => W.r ?_
  refine oA 2 (.bool false) ?_
  refine oV [(0, t0)] (n1 ?_)
  refine oH fun n2 q2 => ?_
  refine oG fun n3 => W.r ?_
  refine oCb hc 10 hF fun t10 h_4 hF => ?_
  refine oB 11 hF fun t11 hF => ?_
  refine oV [(0, t0), (11, .bool t11)] (n3 ?_)
  cases t11 with
  | true =>
    refine oT hF fun hF => ?_
    refine oG fun n8 => W.r ?_
    refine oA 2 (.bool false) ?_
    refine oV [(2, .bool false)] (n8 (oY (q2 ?_)))
    exact lZ hF [.tmp 2] [.bool false] (rT res_nil)
  | false =>
    refine oU hF fun hF => ?_
    refine oZ (n2 ?_)
    refine oH fun n9 q9 => ?_
    refine oG fun n10 => W.r ?_
    refine oA 12 t0 ?_
    refine oCb hc 13 hF fun t13 h_11 hF => ?_
    refine oV [(0, t0), (13, .bool t13)] (n10 ?_)
    cases t13 with
    | true =>
      refine oT hF fun hF => ?_
      refine oG fun n14 => W.r ?_
      refine oA 2 (.bool true) ?_
      refine oV [(2, .bool true)] (n14 (oY (q9 ?_)))
      exact lZ hF [.tmp 2] [.bool true] (rT res_nil)
    | false =>
      refine oU hF fun hF => ?_
      refine oZ (n9 ?_)
      refine oG fun n15 => W.r ?_
      refine oC hc (some 14) hF fun r14 h_16 hF => ?_
      refine oA 3 r14 ?_
      refine oV [(0, t0), (3, r14)] (n15 ?_)
      refine oG fun n18 => W.r ?_
      refine oA 15 (.agg ([.nsl, .nsl, .int .i64 0] : List AV)) ?_
      refine oN 4 hF fun h_19 hF => ?_
      refine oW 30 (.agg ([.nsl, .nsl, .int .i64 0] : List AV)) hF fun h_21 hF => ?_
      refine oV [(0, t0), (3, r14), (4, (newP h_16))] (n18 ?_)
      refine W.s (fun K23 n23 e23 q23 p23 => ?_)
      refine oG fun n24 => W.r ?_
      refine oA 5 (.int .i64 0) ?_
      refine oV [(0, t0), (3, r14), (4, (newP h_16)), (5, .int .i64 0)] (n24 ?_)
      obtain ⟨k26, e26, hF⟩ := lett_some hF
      have J26 : ∀  (h_27 : AHeap), k26 h_27 = some (rR, hR) → Go w0 m0 (Func.ntmps Try.f3) (K23 .normal) [] [] h_27 := by
        intro  h_27 hF
        rw [e26] at hF
        refine n23 ?_
        refine oG fun n28 => W.r ?_
        refine oA 2 (.bool true) ?_
        refine oV [(2, .bool true)] (n28 (oY ?_))
        exact lZ hF [.tmp 2] [.bool true] (rT res_nil)
      refine W.blockK (by kernel_rfl) (fun K25 n25 s25 o25 q25 p25 => ?_)
      refine W.loopK (by kernel_rfl) (fun I29 K29 b29 n29 e29 q29 p29 => ?_)
      have L29 : ∀ (m : Nat) (t3 : AV) (t5 : Int) (h_30 : AHeap), law05_NetPlays_L0 call t0 h_16 k26 m t3 t5 h_30 = some (rR, hR) → Go w0 m0 (Func.ntmps Try.f3) I29 [(0, t0), (3, t3), (4, (newP h_16)), (5, .int .i64 t5)] [] h_30 := by
        intro m
        induction m with
        | zero => intro t3 t5 h_30 hF; cases hF
        | succ m ih29 =>
          intro t3 t5 h_30 hF
          rw [law05_NetPlays_L0_s] at hF; unfold law05_NetPlays_L0b at hF
          refine b29 ?_
          refine W.s (fun K31 n31 e31 q31 p31 => ?_)
          refine oG fun n32 => W.r ?_
          refine oA 16 (.int .i64 t5) ?_
          refine oA 17 t0 ?_
          refine oM 18 22 39 hF fun t18 hF => ?_
          refine oB 19 hF fun t19 hF => ?_
          refine oV [(0, t0), (3, t3), (4, (newP h_16)), (5, .int .i64 t5), (19, .bool t19)] (n32 ?_)
          cases t19 with
          | true =>
            refine oT hF fun hF => ?_
            refine oZ (n31 ?_)
            refine oH fun n35 q35 => ?_
            refine W.blockK (by kernel_rfl) (fun K36 n36 s36 o36 q36 p36 => ?_)
            refine oG fun n37 => W.r ?_
            refine oA 23 t3 ?_
            refine oA 24 t0 ?_
            refine oA 25 (.int .i64 t5) ?_
            refine oP 26 22 39 .i64 hF fun t26 hF => ?_
            refine oR 27 39 hF fun t27 hF => ?_
            refine oC hc (some 28) hF fun r28 h_40 hF => ?_
            refine oA 22 r28 ?_
            refine oE 29 hF fun v29 hF => ?_
            refine oEa 30 hF fun t30 hF => ?_
            refine oN 7 hF fun h_45 hF => ?_
            refine oA 6 v29 ?_
            refine oW 35 (.agg t30) hF fun h_47 hF => ?_
            refine oV [(0, t0), (4, (newP h_16)), (5, .int .i64 t5), (6, v29), (7, (newP h_40))] (n37 ?_)
            refine oG fun n49 => ?_
            refine W.draw (by kernel_rfl) (hc.ok w0) (plan := [0, 1, 2, 3, 4, 9, 10, 5, 6, 7, 8, 11, 12]) (by kernel_rfl) (by kernel_rfl) (by kernel_rfl) ?_
            obtain ⟨t32, e50, hF⟩ := obind_some hF
            refine WD.b 1 (some 32) (.agg t32) h_47 (load_row (P := Try.prog) (h := h_47) (t := 30) (by kernel_rfl) (by kernel_rfl) e50) ?_
            refine WD.a 0 (some 33) t0 h_47 ?_
            refine WD.a 0 (some 34) (.int .i64 t5) h_47 ?_
            obtain ⟨t35, e51, hF⟩ := obind_some hF
            refine WD.b 0 (some 35) t35 h_47 (index_row (P := Try.prog) (h := h_47) (t := 22) (e' := 39) (k := .i64) (by kernel_rfl) (by kernel_rfl) (by kernel_rfl) e51) ?_
            obtain ⟨t36, e52, hF⟩ := obind_some hF
            refine WD.b 1 (some 36) (.agg t36) h_47 (load_row (P := Try.prog) (h := h_47) (t := 39) (by kernel_rfl) (by kernel_rfl) e52) ?_
            obtain ⟨h_53, e54, hF⟩ := lett_some hF
            refine WD.val (d := (some 8)) (v := (newP h_47)) (h' := h_53) (by kernel_rfl) (by kernel_rfl) (val_ofH e54 (by kernel_rfl)) (k := 1) (by kernel_rfl) (fun e => absurd e (by decide)) (by decide) ?_
            obtain ⟨h_55, e56, hF⟩ := lett_some hF
            refine WD.val (d := (some 9)) (v := (newP h_53)) (h' := h_55) (by kernel_rfl) (by kernel_rfl) (val_ofH e56 (by kernel_rfl)) (k := 1) (by kernel_rfl) (fun e => absurd e (by decide)) (by decide) ?_
            obtain ⟨r37, h_57, e58, hF⟩ := callN_some hF
            obtain ⟨k59, hF⟩ := chk_some hF
            refine WD.call (d := (some 37)) (by kernel_rfl) (by kernel_rfl) (by kernel_rfl) e58 (k := 2) (by kernel_rfl) (fun _ => (Eq.trans (by kernel_rfl) k59)) (by decide) ?_
            refine WD.a 0 (some 31) r37 h_57 ?_
            replace hF := obind_some hF; obtain ⟨v38, e60, hF⟩ := hF
            replace hF := obind_some hF; obtain ⟨t38, c61, hF⟩ := hF
            have c61 := avAgg_some c61
            subst c61
            refine WD.b 0 (some 38) (.agg t38) h_57 (extract_tup (h := h_57) e60) ?_
            replace hF := obind_some hF; obtain ⟨v39, e62, hF⟩ := hF
            replace hF := obind_some hF; obtain ⟨t39, c63, hF⟩ := hF
            have c63 := avAgg_some c63
            subst c63
            refine WD.b 0 (some 39) (.agg t39) h_57 (extract_tup (h := h_57) e62) ?_
            obtain ⟨h_64, e65, hF⟩ := obind_some hF
            refine WD.eff (h' := h_64) (by kernel_rfl) (by kernel_rfl) (Eq.trans (by kernel_rfl) (store_row (P := Try.prog) (h := h_57) (t := 30) (v := (.agg t38)) (by kernel_rfl) (by kernel_rfl) e65)) (k := 2) (by kernel_rfl) (fun _ => (by kernel_rfl)) (by decide) ?_
            obtain ⟨h_66, e67, hF⟩ := obind_some hF
            refine WD.eff (h' := h_66) (by kernel_rfl) (by kernel_rfl) (Eq.trans (by kernel_rfl) (store_row (P := Try.prog) (h := h_64) (t := 35) (v := (.agg t39)) (by kernel_rfl) (by kernel_rfl) e67)) (k := 2) (by kernel_rfl) (fun _ => (by kernel_rfl)) (by decide) ?_
            refine WD.nil ?_
            refine gW [(0, t0), (4, (newP h_16)), (5, .int .i64 t5), (6, v29), (7, (newP h_40)), (8, (newP h_47)), (9, (newP h_53))] (n49 ?_)
            refine oG fun n68 => ?_
            refine W.draw (by kernel_rfl) (hc.ok w0) (plan := [0, 1, 2, 3]) (by kernel_rfl) (by kernel_rfl) (by kernel_rfl) ?_
            refine WD.a 0 (some 40) v29 h_66 ?_
            obtain ⟨t41, e69, hF⟩ := obind_some hF
            refine WD.b 1 (some 41) (.agg t41) h_66 (load_row (P := Try.prog) (h := h_66) (t := 30) (by kernel_rfl) (by kernel_rfl) e69) ?_
            refine WD.a 0 (some 3) v29 h_66 ?_
            obtain ⟨h_70, e71, hF⟩ := obind_some hF
            refine WD.eff (h' := h_70) (by kernel_rfl) (by kernel_rfl) (Eq.trans (by kernel_rfl) (store_row (P := Try.prog) (h := h_66) (t := 30) (v := (.agg t41)) (by kernel_rfl) (by kernel_rfl) e71)) (k := 2) (by kernel_rfl) (fun _ => (by kernel_rfl)) (by decide) ?_
            refine WD.nil ?_
            refine gW [(0, t0), (3, v29), (4, (newP h_16)), (5, .int .i64 t5), (7, (newP h_40)), (9, (newP h_53))] (n68 ?_)
            refine W.s (fun K72 n72 e72 q72 p72 => ?_)
            obtain ⟨k73, e73, hF⟩ := lett_some hF
            have J73 : ∀ (t56 : Bool) (h_74 : AHeap), k73 t56 h_74 = some (rR, hR) → Go w0 m0 (Func.ntmps Try.f3) (K72 .normal) [(0, t0), (3, v29), (4, (newP h_16)), (5, .int .i64 t5), (56, .bool t56)] [] h_74 := by
              intro t56 h_74 hF
              rw [e73] at hF
              refine n72 ?_
              cases t56 with
              | true =>
                refine oT hF fun hF => ?_
                refine oG fun n75 => W.r ?_
                refine oA 2 (.bool false) ?_
                refine oV [(2, .bool false)] (n75 (oY (q36 (q35 (q29 (q25 (q23 ?_)))))))
                exact lZ hF [.tmp 2] [.bool false] (rT res_nil)
              | false =>
                refine oU hF fun hF => ?_
                refine oZ (n36 (n35 (W.r ?_)))
                refine oA 20 (.int .i64 t5) ?_
                refine oI 21 .i64 hF fun t21 hF => ?_
                refine oA 5 (.int .i64 t21) ?_
                refine oV [(0, t0), (3, v29), (4, (newP h_16)), (5, .int .i64 t21)] (n29 ?_)
                exact gW _ (ih29 _ _ _ hF)
            refine W.draw (by kernel_rfl) (hc.ok w0) (plan := [0, 1, 2, 3, 4, 5, 6, 7, 8, 10, 11, 9, 12, 13, 14]) (by kernel_rfl) (by kernel_rfl) (by kernel_rfl) ?_
            refine WD.a 0 (some 42) v29 h_70 ?_
            replace hF := outK_some hF; obtain ⟨v43, h_77, e78, hF⟩ := hF
            replace hF := obind_some hF; obtain ⟨t43, c79, hF⟩ := hF
            have c79 := avBool_some c79
            subst c79
            refine WD.b 0 (some 43) (.bool t43) h_77 e78 ?_
            refine WD.a 0 (some 44) (.bool t43) h_77 ?_
            cases t43 with
            | true =>
              replace hF := ifB_t hF
              refine oD 1 (some 45) ?_
              refine oD 1 (some 46) ?_
              refine oD 0 (some 47) ?_
              refine WD.a 0 (some 48) (.bool true) h_77 ?_
              refine WD.a 0 (some 49) (.bool true) h_77 ?_
              refine oD 0 (some 50) ?_
              refine oD 0 (some 52) ?_
              refine oD 1 (some 53) ?_
              refine WD.not (d := (some 51)) (by kernel_rfl) (by kernel_rfl) (k := 2) (by kernel_rfl) (fun _ => (by kernel_rfl)) (by decide) ?_
              refine WD.not (d := (some 54)) (by kernel_rfl) (by kernel_rfl) (k := 2) (by kernel_rfl) (fun _ => (by kernel_rfl)) (by decide) ?_
              refine oD 0 (some 55) ?_
              refine WD.a 0 (some 56) (.bool true) h_77 ?_
              refine WD.nil ?_
              exact gW _ (J73 _ _ hF)
            | false =>
              replace hF := ifB_f hF
              obtain ⟨t45, e80, hF⟩ := obind_some hF
              refine WD.b 1 (some 45) (.agg t45) h_77 (load_row (P := Try.prog) (h := h_77) (t := 35) (by kernel_rfl) (by kernel_rfl) e80) ?_
              obtain ⟨t46, e81, hF⟩ := obind_some hF
              refine WD.b 1 (some 46) (.agg t46) h_77 (load_row (P := Try.prog) (h := h_77) (t := 35) (by kernel_rfl) (by kernel_rfl) e81) ?_
              obtain ⟨t47, e82, hF⟩ := obind_some hF
              obtain ⟨t47_83, e84, hF⟩ := lett_some hF
              refine WD.val (d := (some 47)) (v := .bool t47_83) (h' := h_77) (by kernel_rfl) (by kernel_rfl) (val_of AV.bool e84 (Eq.trans (by kernel_rfl) (neq_other (P := Try.prog) (h := h_77) (t := 35) (lit := false) (by kernel_rfl) e82))) (k := 0) (by kernel_rfl) (fun e => absurd e (by decide)) (by decide) ?_
              refine WD.a 0 (some 48) (.bool t47_83) h_77 ?_
              refine WD.a 0 (some 49) (.bool t47_83) h_77 ?_
              cases t47_83 with
              | true =>
                replace hF := ifB_t hF
                refine oD 0 (some 50) ?_
                refine oD 0 (some 52) ?_
                refine oD 1 (some 53) ?_
                refine WD.not (d := (some 51)) (by kernel_rfl) (by kernel_rfl) (k := 2) (by kernel_rfl) (fun _ => (by kernel_rfl)) (by decide) ?_
                refine WD.not (d := (some 54)) (by kernel_rfl) (by kernel_rfl) (k := 2) (by kernel_rfl) (fun _ => (by kernel_rfl)) (by decide) ?_
                refine oD 0 (some 55) ?_
                refine WD.a 0 (some 56) (.bool true) h_77 ?_
                refine WD.nil ?_
                exact gW _ (J73 _ _ hF)
              | false =>
                replace hF := ifB_f hF
                refine WD.a 0 (some 50) v29 h_77 ?_
                refine WD.a 0 (some 52) (AV.ptr (AHeap.next h_16) 0) h_77 ?_
                obtain ⟨v53, e85, hF⟩ := obind_some hF
                refine WD.b 1 (some 53) v53 h_77 (load_cell (P := Try.prog) (h := h_77) (t := 27) (by kernel_rfl) e85) ?_
                obtain ⟨r51, h_86, e87, hF⟩ := callN_some hF
                obtain ⟨k88, hF⟩ := chk_some hF
                refine WD.call (d := (some 51)) (by kernel_rfl) (by kernel_rfl) (by kernel_rfl) e87 (k := 2) (by kernel_rfl) (fun _ => (Eq.trans (by kernel_rfl) k88)) (by decide) ?_
                replace hF := callN_some hF; obtain ⟨r54, h_89, e90, hF⟩ := hF
                replace hF := obind_some hF; obtain ⟨t54, c91, hF⟩ := hF
                have c91 := avBool_some c91
                subst c91
                refine WD.call (d := (some 54)) (by kernel_rfl) (by kernel_rfl) (by kernel_rfl) e90 (k := 2) (by kernel_rfl) (fun _ => (by kernel_rfl)) (by decide) ?_
                obtain ⟨t55, e92, hF⟩ := lett_some hF
                refine WD.val (d := (some 55)) (v := .bool t55) (h' := h_89) (by kernel_rfl) (by kernel_rfl) (val_of AV.bool e92 (by kernel_rfl)) (k := 0) (by kernel_rfl) (fun e => absurd e (by decide)) (by decide) ?_
                refine WD.a 0 (some 56) (.bool t55) h_89 ?_
                refine WD.nil ?_
                exact gW _ (J73 _ _ hF)
          | false =>
            refine oU hF fun hF => ?_
            refine W.exit (by kernel_rfl) ?_
            refine e31 (e29 ?_)
            refine s25 (by kernel_rfl) ?_
            exact gW _ (J26 _ hF)
      exact gW _ (L29 _ _ _ _ hF)
end Go.Proofs.Ythdkfofkghpmcaa
