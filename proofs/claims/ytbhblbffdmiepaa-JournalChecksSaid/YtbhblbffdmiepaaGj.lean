/- Plain functions in place of the program's, and that their calls come to what they say. -/
import Derived.Test.YtbhblbffdmiepaaFrame
import Derived.Test.YtbhblbffdmiepaaAbs33
namespace Go.Proofs.Ytbhblbffdmiepaa
open Go.RowKit Abs

noncomputable def journal_Check_L0b (t6 : List AV) (k11 : AHeap → R) (self : Int → AHeap → R) (t7 : Int) (h_22 : AHeap) : R :=
  lett (decide (t7 < 4)) fun (t8 : Bool) =>
  ifB t8
  (
    outK (opIndex Try.prog h_22 100 (some (.agg t6)) (some (.int .i64 t7))) fun v9 h_29 =>
    obind (avAgg v9) fun t9 =>
    lett (newH h_29 99 [.int .i64 0, .int .i64 0]) fun h_32 =>
    obind (stRow h_32 2 t9 (newP h_29)) fun h_34 =>
    obind (ldCell h_34 (AV.ptr (AHeap.next h_29) 0)) fun v11 =>
    obind (avInt .i64 v11) fun t11 =>
    lett (decide (t11 < 1)) fun (t12 : Bool) =>
    lett (fun (t19 : Bool) (h_40 : AHeap) =>
      ifB t19
      (
        some (.ret (.int .i64 2), h_40))
      (
        lett (IntKind.i64.wrap (t7 + 1)) fun (t20 : Int) =>
        self t20 h_40)) fun j19 =>
    ifB t12
    (
      j19 true h_34)
    (
      obind (ldCell h_34 (AV.ptr (AHeap.next h_29) 0)) fun v15 =>
      obind (avInt .i64 v15) fun t15 =>
      obind (ldCell h_34 (AV.ptr (AHeap.next h_29) 1)) fun v17 =>
      obind (avInt .i64 v17) fun t17 =>
      lett (decide (t15 > t17)) fun (t18 : Bool) =>
      j19 t18 h_34))
  (
    k11 h_22)
noncomputable def journal_Check_L0 (t6 : List AV) (k11 : AHeap → R) : Nat → Int → AHeap → R := iterR (fun _ _ => none) (journal_Check_L0b t6 k11)
theorem journal_Check_L0_s (t6 : List AV) (k11 : AHeap → R) (m : Nat) : journal_Check_L0 t6 k11 (m + 1) = journal_Check_L0b t6 k11 (journal_Check_L0 t6 k11 m) := rfl
noncomputable def journal_Check (call : CallF) (n : Nat) (t0 : List AV) (h : AHeap) : R :=
  outK (opBox h 35 (some (.agg t0))) fun v1 h_2 =>
  obind (ldRow h_2 5 v1) fun t5 =>
  callN (call 40 [.agg t5] h_2) fun r6 h_7 =>
  obind (avAgg r6) fun t6 =>
  lett (fun  (h_12 : AHeap) =>
    obind (fldP 4 v1) fun t21 =>
    obind (ldCell h_12 t21) fun v22 =>
    obind (avStr v22) fun t22 =>
    lett (decide ((lenS t22) > 64)) fun (t24 : Bool) =>
    ifB t24
    (
      some (.ret (.int .i64 3), h_12))
    (
      some (.ret (.int .i64 0), h_12))) fun k11 =>
  journal_Check_L0 t6 k11 n 0 h_7
set_option maxHeartbeats 4000000 in
set_option maxRecDepth 20000 in
theorem journal_Check_ok {call : CallF} (hc : SaysAll Try.prog call) {n : Nat} {t0 : List AV} {h : AHeap} {rR : ARes} {hR : AHeap} (hF : journal_Check call n t0 h = some (rR, hR)) : Says Try.prog 16 [.agg t0] h rR hR := by
  unfold journal_Check at hF
  refine says_of (fn := Try.f16) Try.func16 (c := codeOf Try.f16) (by kernel_rfl) (by kernel_rfl) (fun w0 m0 => ?_)
  refine W.weaken (l' := [(0, .agg t0)]) (Fr.sub_cons (by kernel_rfl) (Fr.sub_nil _)) ?_
  refine W.seqK (by kernel_rfl) (fun K1 n1 e1 r1 p1 => ?_)
  refine W.region (by kernel_rfl) ?_
  replace hF := outK_some hF; obtain ⟨v1, h_2, e3, hF⟩ := hF
  refine WL.val (d := (some 1)) (v := v1) (h' := h_2) (by kernel_rfl) (by kernel_rfl) (Eq.trans (by kernel_rfl) e3) ?_
  refine WL.val (d := (some 2)) (v := .int .i64 0) (h' := h_2) (by kernel_rfl) (by kernel_rfl) (by kernel_rfl) ?_
  refine WL.nil (by kernel_rfl) ?_
  refine Go.weaken (l' := [(1, v1)]) (Fr.sub_cons (by kernel_rfl) (Fr.sub_nil _)) ?_
  refine n1 ?_
  refine W.seqK (by kernel_rfl) (fun K4 n4 e4 r4 p4 => ?_)
  refine W.seqK (by kernel_rfl) (fun K5 n5 e5 r5 p5 => ?_)
  refine W.region (by kernel_rfl) ?_
  replace hF := obind_some hF; obtain ⟨t5, e6, hF⟩ := hF
  refine WL.val (d := (some 5)) (v := .agg t5) (h' := h_2) (by kernel_rfl) (by kernel_rfl) (Eq.trans (by kernel_rfl) (load_row (P := Try.prog) (h := h_2) (t := 35) (by kernel_rfl) (by kernel_rfl) e6)) ?_
  replace hF := callN_some hF; obtain ⟨r6, h_7, e8, hF⟩ := hF
  replace hF := obind_some hF; obtain ⟨t6, c9, hF⟩ := hF
  have c9 := avAgg_some c9
  subst c9
  refine WL.call (hc.ok w0) (d := (some 6)) (by kernel_rfl) (by kernel_rfl) (by kernel_rfl) e8 ?_
  refine WL.val (d := (some 7)) (v := .int .i64 0) (h' := h_7) (by kernel_rfl) (by kernel_rfl) (by kernel_rfl) ?_
  refine WL.nil (by kernel_rfl) ?_
  refine Go.weaken (l' := [(1, v1), (6, .agg t6), (7, .int .i64 0)]) (Fr.sub_cons (by kernel_rfl) (Fr.sub_cons (by kernel_rfl) (Fr.sub_cons (by kernel_rfl) (Fr.sub_nil _)))) ?_
  refine n5 ?_
  replace hF := lett_some hF; obtain ⟨k11, e11, hF⟩ := hF
  have J11 : ∀  (h_12 : AHeap), k11 h_12 = some (rR, hR) → Go w0 m0 (Func.ntmps Try.f16) (K4 .normal) [(1, v1)] [] h_12 := by
    intro  h_12 hF
    rw [e11] at hF
    refine n4 ?_
    refine W.seqK (by kernel_rfl) (fun K13 n13 e13 r13 p13 => ?_)
    refine W.seqK (by kernel_rfl) (fun K14 n14 e14 r14 p14 => ?_)
    refine W.region (by kernel_rfl) ?_
    replace hF := obind_some hF; obtain ⟨t21, e15, hF⟩ := hF
    refine WL.val (d := (some 21)) (v := t21) (h' := h_12) (by kernel_rfl) (by kernel_rfl) (Eq.trans (by kernel_rfl) (field_ptr (P := Try.prog) (h := h_12) (s := 35) (f := 3) (by kernel_rfl) e15)) ?_
    replace hF := obind_some hF; obtain ⟨v22, e16, hF⟩ := hF
    replace hF := obind_some hF; obtain ⟨t22, c17, hF⟩ := hF
    have c17 := avStr_some c17
    subst c17
    refine WL.val (d := (some 22)) (v := strA t22) (h' := h_12) (by kernel_rfl) (by kernel_rfl) (Eq.trans (by kernel_rfl) (load_cell (P := Try.prog) (h := h_12) (t := 9) (by kernel_rfl) e16)) ?_
    refine WL.val (d := (some 23)) (v := .int .i64 (lenS t22)) (h' := h_12) (by kernel_rfl) (by kernel_rfl) (by kernel_rfl) ?_
    replace hF := lett_some hF; obtain ⟨t24, e18, hF⟩ := hF
    refine WL.val (d := (some 24)) (v := .bool t24) (h' := h_12) (by kernel_rfl) (by kernel_rfl) (val_of AV.bool e18 (by kernel_rfl)) ?_
    refine WL.nil (by kernel_rfl) ?_
    refine Go.weaken (l' := [(24, .bool t24)]) (Fr.sub_cons (by kernel_rfl) (Fr.sub_nil _)) ?_
    refine n14 ?_
    cases t24 with
    | true =>
      replace hF := ifB_t hF
      refine W.cond_true (by kernel_rfl) (by kernel_rfl) ?_
      refine W.seqK (by kernel_rfl) (fun K19 n19 e19 r19 p19 => ?_)
      refine W.region (by kernel_rfl) ?_
      refine WL.val (d := (some 2)) (v := .int .i64 3) (h' := h_12) (by kernel_rfl) (by kernel_rfl) (by kernel_rfl) ?_
      refine WL.nil (by kernel_rfl) ?_
      refine Go.weaken (l' := [(2, .int .i64 3)]) (Fr.sub_cons (by kernel_rfl) (Fr.sub_nil _)) ?_
      refine n19 ?_
      refine W.ret (by kernel_rfl) ?_
      refine r13 ?_
      obtain ⟨hF, hF2⟩ := ret_inj hF; subst hF; subst hF2
      exact leave_of (rs := [.tmp 2]) (vs := [.int .i64 3]) (by kernel_rfl) (res_tmp (by kernel_rfl) res_nil) (by kernel_rfl)
    | false =>
      replace hF := ifB_f hF
      refine W.cond_false (by kernel_rfl) (by kernel_rfl) ?_
      refine W.skip (by kernel_rfl) ?_
      refine n13 ?_
      refine W.seqK (by kernel_rfl) (fun K20 n20 e20 r20 p20 => ?_)
      refine W.region (by kernel_rfl) ?_
      refine WL.val (d := (some 2)) (v := .int .i64 0) (h' := h_12) (by kernel_rfl) (by kernel_rfl) (by kernel_rfl) ?_
      refine WL.nil (by kernel_rfl) ?_
      refine Go.weaken (l' := [(2, .int .i64 0)]) (Fr.sub_cons (by kernel_rfl) (Fr.sub_nil _)) ?_
      refine n20 ?_
      refine W.ret (by kernel_rfl) ?_
      obtain ⟨hF, hF2⟩ := ret_inj hF; subst hF; subst hF2
      exact leave_of (rs := [.tmp 2]) (vs := [.int .i64 0]) (by kernel_rfl) (res_tmp (by kernel_rfl) res_nil) (by kernel_rfl)
  refine W.blockK (by kernel_rfl) (fun K10 n10 s10 o10 r10 p10 => ?_)
  refine W.loopK (by kernel_rfl) (fun I21 K21 b21 n21 e21 r21 p21 => ?_)
  have L21 : ∀ (m : Nat) (t7 : Int) (h_22 : AHeap), journal_Check_L0 t6 k11 m t7 h_22 = some (rR, hR) → Go w0 m0 (Func.ntmps Try.f16) I21 [(1, v1), (6, .agg t6), (7, .int .i64 t7)] [] h_22 := by
    intro m
    induction m with
    | zero => intro t7 h_22 hF; cases hF
    | succ m ih21 =>
      intro t7 h_22 hF
      rw [journal_Check_L0_s] at hF; unfold journal_Check_L0b at hF
      refine b21 ?_
      refine W.seqK (by kernel_rfl) (fun K23 n23 e23 r23 p23 => ?_)
      refine W.region (by kernel_rfl) ?_
      replace hF := lett_some hF; obtain ⟨t8, e24, hF⟩ := hF
      refine WL.val (d := (some 8)) (v := .bool t8) (h' := h_22) (by kernel_rfl) (by kernel_rfl) (val_of AV.bool e24 (by kernel_rfl)) ?_
      refine WL.nil (by kernel_rfl) ?_
      refine Go.weaken (l' := [(1, v1), (6, .agg t6), (7, .int .i64 t7), (8, .bool t8)]) (Fr.sub_cons (by kernel_rfl) (Fr.sub_cons (by kernel_rfl) (Fr.sub_cons (by kernel_rfl) (Fr.sub_cons (by kernel_rfl) (Fr.sub_nil _))))) ?_
      refine n23 ?_
      refine W.seqK (by kernel_rfl) (fun K25 n25 e25 r25 p25 => ?_)
      cases t8 with
      | true =>
        replace hF := ifB_t hF
        refine W.cond_true (by kernel_rfl) (by kernel_rfl) ?_
        refine W.skip (by kernel_rfl) ?_
        refine n25 ?_
        refine W.seqK (by kernel_rfl) (fun K26 n26 e26 r26 p26 => ?_)
        refine W.blockK (by kernel_rfl) (fun K27 n27 s27 o27 r27 p27 => ?_)
        refine W.seqK (by kernel_rfl) (fun K28 n28 e28 r28 p28 => ?_)
        refine W.region (by kernel_rfl) ?_
        replace hF := outK_some hF; obtain ⟨v9, h_29, e30, hF⟩ := hF
        replace hF := obind_some hF; obtain ⟨t9, c31, hF⟩ := hF
        have c31 := avAgg_some c31
        subst c31
        refine WL.val (d := (some 9)) (v := .agg t9) (h' := h_29) (by kernel_rfl) (by kernel_rfl) (Eq.trans (by kernel_rfl) e30) ?_
        replace hF := lett_some hF; obtain ⟨h_32, e33, hF⟩ := hF
        refine WL.val (d := (some 4)) (v := (newP h_29)) (h' := h_32) (by kernel_rfl) (by kernel_rfl) (val_ofH e33 (by kernel_rfl)) ?_
        replace hF := obind_some hF; obtain ⟨h_34, e35, hF⟩ := hF
        refine WL.eff (h' := h_34) (by kernel_rfl) (by kernel_rfl) (Eq.trans (by kernel_rfl) (store_row (P := Try.prog) (h := h_32) (t := 99) (v := (.agg t9)) (by kernel_rfl) (by kernel_rfl) e35)) ?_
        refine WL.nil (by kernel_rfl) ?_
        refine Go.weaken (l' := [(1, v1), (4, (newP h_29)), (6, .agg t6), (7, .int .i64 t7)]) (Fr.sub_cons (by kernel_rfl) (Fr.sub_cons (by kernel_rfl) (Fr.sub_cons (by kernel_rfl) (Fr.sub_cons (by kernel_rfl) (Fr.sub_nil _))))) ?_
        refine n28 ?_
        refine W.seqK (by kernel_rfl) (fun K36 n36 e36 r36 p36 => ?_)
        refine W.region (by kernel_rfl) ?_
        refine WL.val (d := (some 10)) (v := (AV.ptr (AHeap.next h_29) 0)) (h' := h_34) (by kernel_rfl) (by kernel_rfl) (by kernel_rfl) ?_
        replace hF := obind_some hF; obtain ⟨v11, e37, hF⟩ := hF
        replace hF := obind_some hF; obtain ⟨t11, c38, hF⟩ := hF
        have c38 := avInt_some c38
        subst c38
        refine WL.val (d := (some 11)) (v := .int .i64 t11) (h' := h_34) (by kernel_rfl) (by kernel_rfl) (Eq.trans (by kernel_rfl) (load_cell (P := Try.prog) (h := h_34) (t := 3) (by kernel_rfl) e37)) ?_
        replace hF := lett_some hF; obtain ⟨t12, e39, hF⟩ := hF
        refine WL.val (d := (some 12)) (v := .bool t12) (h' := h_34) (by kernel_rfl) (by kernel_rfl) (val_of AV.bool e39 (by kernel_rfl)) ?_
        refine WL.val (d := (some 13)) (v := .bool t12) (h' := h_34) (by kernel_rfl) (by kernel_rfl) (by kernel_rfl) ?_
        replace hF := lett_some hF; obtain ⟨j19, e41, hF⟩ := hF
        have J42 : ∀ (t19 : Bool) (h_40 : AHeap), j19 t19 h_40 = some (rR, hR) → WL Try.prog w0 m0 (Func.ntmps Try.f16) (Code.ops (Code.p1 (Code.p2 (Code.p1 (Code.p1 (Code.p2 (Code.p2 (Code.p1 (Code.p1 (Code.p2 (Code.p1 (Code.p2 (codeOf Try.f16))))))))))))) 10 K36 [(1, v1), (6, .agg t6), (7, .int .i64 t7), (19, .bool t19)] [] h_40 := by
          intro t19 h_40 hF
          rw [e41] at hF
          refine WL.nil (by kernel_rfl) ?_
          refine Go.weaken (l' := [(1, v1), (6, .agg t6), (7, .int .i64 t7), (19, .bool t19)]) (Fr.sub_cons (by kernel_rfl) (Fr.sub_cons (by kernel_rfl) (Fr.sub_cons (by kernel_rfl) (Fr.sub_cons (by kernel_rfl) (Fr.sub_nil _))))) ?_
          refine n36 ?_
          cases t19 with
          | true =>
            replace hF := ifB_t hF
            refine W.cond_true (by kernel_rfl) (by kernel_rfl) ?_
            refine W.seqK (by kernel_rfl) (fun K43 n43 e43 r43 p43 => ?_)
            refine W.region (by kernel_rfl) ?_
            refine WL.val (d := (some 2)) (v := .int .i64 2) (h' := h_40) (by kernel_rfl) (by kernel_rfl) (by kernel_rfl) ?_
            refine WL.nil (by kernel_rfl) ?_
            refine Go.weaken (l' := [(2, .int .i64 2)]) (Fr.sub_cons (by kernel_rfl) (Fr.sub_nil _)) ?_
            refine n43 ?_
            refine W.ret (by kernel_rfl) ?_
            refine r27 ?_
            refine r26 ?_
            refine r21 ?_
            refine r10 ?_
            refine r4 ?_
            obtain ⟨hF, hF2⟩ := ret_inj hF; subst hF; subst hF2
            exact leave_of (rs := [.tmp 2]) (vs := [.int .i64 2]) (by kernel_rfl) (res_tmp (by kernel_rfl) res_nil) (by kernel_rfl)
          | false =>
            replace hF := ifB_f hF
            refine W.cond_false (by kernel_rfl) (by kernel_rfl) ?_
            refine W.skip (by kernel_rfl) ?_
            refine n27 ?_
            refine n26 ?_
            refine W.region (by kernel_rfl) ?_
            replace hF := lett_some hF; obtain ⟨t20, e44, hF⟩ := hF
            refine WL.val (d := (some 20)) (v := .int .i64 t20) (h' := h_40) (by kernel_rfl) (by kernel_rfl) (val_of (AV.int .i64) e44 (by kernel_rfl)) ?_
            refine WL.val (d := (some 7)) (v := .int .i64 t20) (h' := h_40) (by kernel_rfl) (by kernel_rfl) (by kernel_rfl) ?_
            refine WL.nil (by kernel_rfl) ?_
            refine Go.weaken (l' := [(1, v1), (6, .agg t6), (7, .int .i64 t20)]) (Fr.sub_cons (by kernel_rfl) (Fr.sub_cons (by kernel_rfl) (Fr.sub_cons (by kernel_rfl) (Fr.sub_nil _)))) ?_
            refine n21 ?_
            exact Go.weaken (Fr.sub_cons (by kernel_rfl) (Fr.sub_cons (by kernel_rfl) (Fr.sub_cons (by kernel_rfl) (Fr.sub_nil _)))) (ih21 _ _ hF)
        cases t12 with
        | true =>
          replace hF := ifB_t hF
          refine WL.not (d := (some 14)) (by kernel_rfl) (by kernel_rfl) ?_
          refine WL.not (d := (some 15)) (by kernel_rfl) (by kernel_rfl) ?_
          refine WL.not (d := (some 16)) (by kernel_rfl) (by kernel_rfl) ?_
          refine WL.not (d := (some 17)) (by kernel_rfl) (by kernel_rfl) ?_
          refine WL.not (d := (some 18)) (by kernel_rfl) (by kernel_rfl) ?_
          refine WL.val (d := (some 19)) (v := .bool true) (h' := h_34) (by kernel_rfl) (by kernel_rfl) (by kernel_rfl) ?_
          exact WL.weaken (Fr.sub_cons (by kernel_rfl) (Fr.sub_cons (by kernel_rfl) (Fr.sub_cons (by kernel_rfl) (Fr.sub_cons (by kernel_rfl) (Fr.sub_nil _))))) (J42 _ _ hF)
        | false =>
          replace hF := ifB_f hF
          refine WL.val (d := (some 14)) (v := (AV.ptr (AHeap.next h_29) 0)) (h' := h_34) (by kernel_rfl) (by kernel_rfl) (by kernel_rfl) ?_
          replace hF := obind_some hF; obtain ⟨v15, e45, hF⟩ := hF
          replace hF := obind_some hF; obtain ⟨t15, c46, hF⟩ := hF
          have c46 := avInt_some c46
          subst c46
          refine WL.val (d := (some 15)) (v := .int .i64 t15) (h' := h_34) (by kernel_rfl) (by kernel_rfl) (Eq.trans (by kernel_rfl) (load_cell (P := Try.prog) (h := h_34) (t := 3) (by kernel_rfl) e45)) ?_
          refine WL.val (d := (some 16)) (v := (AV.ptr (AHeap.next h_29) 1)) (h' := h_34) (by kernel_rfl) (by kernel_rfl) (by kernel_rfl) ?_
          replace hF := obind_some hF; obtain ⟨v17, e47, hF⟩ := hF
          replace hF := obind_some hF; obtain ⟨t17, c48, hF⟩ := hF
          have c48 := avInt_some c48
          subst c48
          refine WL.val (d := (some 17)) (v := .int .i64 t17) (h' := h_34) (by kernel_rfl) (by kernel_rfl) (Eq.trans (by kernel_rfl) (load_cell (P := Try.prog) (h := h_34) (t := 3) (by kernel_rfl) e47)) ?_
          replace hF := lett_some hF; obtain ⟨t18, e49, hF⟩ := hF
          refine WL.val (d := (some 18)) (v := .bool t18) (h' := h_34) (by kernel_rfl) (by kernel_rfl) (val_of AV.bool e49 (by kernel_rfl)) ?_
          refine WL.val (d := (some 19)) (v := .bool t18) (h' := h_34) (by kernel_rfl) (by kernel_rfl) (by kernel_rfl) ?_
          exact WL.weaken (Fr.sub_cons (by kernel_rfl) (Fr.sub_cons (by kernel_rfl) (Fr.sub_cons (by kernel_rfl) (Fr.sub_cons (by kernel_rfl) (Fr.sub_nil _))))) (J42 _ _ hF)
      | false =>
        replace hF := ifB_f hF
        refine W.cond_false (by kernel_rfl) (by kernel_rfl) ?_
        refine W.exit (by kernel_rfl) ?_
        refine e25 ?_
        refine e21 ?_
        refine s10 (by kernel_rfl) ?_
        exact Go.weaken (Fr.sub_cons (by kernel_rfl) (Fr.sub_nil _)) (J11 _ hF)
  exact Go.weaken (Fr.sub_cons (by kernel_rfl) (Fr.sub_cons (by kernel_rfl) (Fr.sub_cons (by kernel_rfl) (Fr.sub_nil _)))) (L21 _ _ _ hF)
noncomputable def journal_Check_fn (call : CallF) (n : Nat) : FnT := fun args h => match args with
  | [x0] => obind (avAgg x0) fun t0 => journal_Check call n t0 h
  | _ => none
set_option maxRecDepth 100000 in
theorem journal_Check_fn_eq (call : CallF) (n : Nat) (t0 : List AV) (h : AHeap) : journal_Check_fn call n [.agg t0] h = journal_Check call n t0 h :=
  (Eq.trans (obind_eq (fun t0 => journal_Check call n t0 h) (avAgg_agg t0)) rfl)
theorem journal_Check_holds {call : CallF} (hc : SaysAll Try.prog call) (n : Nat) : Holds Try.prog 16 (journal_Check_fn call n) := by
  intro args h r h2 e
  unfold journal_Check_fn at e
  split at e
  · replace e := obind_some e; obtain ⟨t0, c0, e⟩ := e; have c0 := avAgg_some c0; subst c0
    exact journal_Check_ok hc e
  · cases e

noncomputable def journal_numbers (_ : CallF) (_ : Nat) (t0 : List AV) (h : AHeap) : R :=
  outK (opBox h 35 (some (.agg t0))) fun v1 h_2 =>
  lett (newH h_2 100 [.int .i64 0, .int .i64 0, .int .i64 0, .int .i64 0, .int .i64 0, .int .i64 0, .int .i64 0, .int .i64 0]) fun h_4 =>
  obind (fldP 0 v1) fun t3 =>
  obind (ldCell h_4 t3) fun v4 =>
  obind (avInt .i64 v4) fun t4 =>
  obind (fldP 1 v1) fun t6 =>
  obind (fldP 0 t6) fun t7 =>
  obind (ldCell h_4 t7) fun v8 =>
  obind (avInt .i64 v8) fun t8 =>
  obind (fldP 1 v1) fun t10 =>
  obind (fldP 1 t10) fun t11 =>
  obind (ldCell h_4 t11) fun v12 =>
  obind (avInt .i64 v12) fun t12 =>
  obind (fldP 3 v1) fun t14 =>
  obind (ldCell h_4 t14) fun v15 =>
  obind (avInt .i64 v15) fun t15 =>
  obind (bldS Try.prog 100 [(0, .agg ([.int .i64 t4, .int .i64 1048576] : List AV)), (1, .agg ([.int .i64 t8, .int .i64 1099511627776] : List AV)), (2, .agg ([.int .i64 t12, .int .i64 1048576] : List AV)), (3, .agg ([.int .i64 t15, .int .i64 1048576] : List AV))]) fun t17 =>
  obind (stRow h_4 8 t17 (newP h_2)) fun h_22 =>
  obind (ldRow h_22 8 (newP h_2)) fun w2 =>
  some (.ret (.agg w2), h_22)
set_option maxHeartbeats 4000000 in
set_option maxRecDepth 20000 in
theorem journal_numbers_ok {call : CallF} (_ : SaysAll Try.prog call) {n : Nat} {t0 : List AV} {h : AHeap} {rR : ARes} {hR : AHeap} (hF : journal_numbers call n t0 h = some (rR, hR)) : Says Try.prog 40 [.agg t0] h rR hR := by
  unfold journal_numbers at hF
  refine says_of (fn := Try.f40) Try.func40 (c := codeOf Try.f40) (by kernel_rfl) (by kernel_rfl) (fun w0 m0 => ?_)
  refine W.weaken (l' := [(0, .agg t0)]) (Fr.sub_cons (by kernel_rfl) (Fr.sub_nil _)) ?_
  refine W.seqK (by kernel_rfl) (fun K1 n1 e1 r1 p1 => ?_)
  refine W.region (by kernel_rfl) ?_
  replace hF := outK_some hF; obtain ⟨v1, h_2, e3, hF⟩ := hF
  refine WL.val (d := (some 1)) (v := v1) (h' := h_2) (by kernel_rfl) (by kernel_rfl) (Eq.trans (by kernel_rfl) e3) ?_
  replace hF := lett_some hF; obtain ⟨h_4, e5, hF⟩ := hF
  refine WL.val (d := (some 2)) (v := (newP h_2)) (h' := h_4) (by kernel_rfl) (by kernel_rfl) (val_ofH e5 (by kernel_rfl)) ?_
  refine WL.nil (by kernel_rfl) ?_
  refine Go.weaken (l' := [(1, v1), (2, (newP h_2))]) (Fr.sub_cons (by kernel_rfl) (Fr.sub_cons (by kernel_rfl) (Fr.sub_nil _))) ?_
  refine n1 ?_
  refine W.seqK (by kernel_rfl) (fun K6 n6 e6 r6 p6 => ?_)
  refine W.region (by kernel_rfl) ?_
  replace hF := obind_some hF; obtain ⟨t3, e7, hF⟩ := hF
  refine WL.val (d := (some 3)) (v := t3) (h' := h_4) (by kernel_rfl) (by kernel_rfl) (Eq.trans (by kernel_rfl) (field_ptr (P := Try.prog) (h := h_4) (s := 35) (f := 0) (by kernel_rfl) e7)) ?_
  replace hF := obind_some hF; obtain ⟨v4, e8, hF⟩ := hF
  replace hF := obind_some hF; obtain ⟨t4, c9, hF⟩ := hF
  have c9 := avInt_some c9
  subst c9
  refine WL.val (d := (some 4)) (v := .int .i64 t4) (h' := h_4) (by kernel_rfl) (by kernel_rfl) (Eq.trans (by kernel_rfl) (load_cell (P := Try.prog) (h := h_4) (t := 3) (by kernel_rfl) e8)) ?_
  refine WL.val (d := (some 5)) (v := .agg ([.int .i64 t4, .int .i64 1048576] : List AV)) (h' := h_4) (by kernel_rfl) (by kernel_rfl) (by kernel_rfl) ?_
  replace hF := obind_some hF; obtain ⟨t6, e10, hF⟩ := hF
  refine WL.val (d := (some 6)) (v := t6) (h' := h_4) (by kernel_rfl) (by kernel_rfl) (Eq.trans (by kernel_rfl) (field_ptr (P := Try.prog) (h := h_4) (s := 35) (f := 1) (by kernel_rfl) e10)) ?_
  replace hF := obind_some hF; obtain ⟨t7, e11, hF⟩ := hF
  refine WL.val (d := (some 7)) (v := t7) (h' := h_4) (by kernel_rfl) (by kernel_rfl) (Eq.trans (by kernel_rfl) (field_ptr (P := Try.prog) (h := h_4) (s := 30) (f := 0) (by kernel_rfl) e11)) ?_
  replace hF := obind_some hF; obtain ⟨v8, e12, hF⟩ := hF
  replace hF := obind_some hF; obtain ⟨t8, c13, hF⟩ := hF
  have c13 := avInt_some c13
  subst c13
  refine WL.val (d := (some 8)) (v := .int .i64 t8) (h' := h_4) (by kernel_rfl) (by kernel_rfl) (Eq.trans (by kernel_rfl) (load_cell (P := Try.prog) (h := h_4) (t := 3) (by kernel_rfl) e12)) ?_
  refine WL.val (d := (some 9)) (v := .agg ([.int .i64 t8, .int .i64 1099511627776] : List AV)) (h' := h_4) (by kernel_rfl) (by kernel_rfl) (by kernel_rfl) ?_
  replace hF := obind_some hF; obtain ⟨t10, e14, hF⟩ := hF
  refine WL.val (d := (some 10)) (v := t10) (h' := h_4) (by kernel_rfl) (by kernel_rfl) (Eq.trans (by kernel_rfl) (field_ptr (P := Try.prog) (h := h_4) (s := 35) (f := 1) (by kernel_rfl) e14)) ?_
  replace hF := obind_some hF; obtain ⟨t11, e15, hF⟩ := hF
  refine WL.val (d := (some 11)) (v := t11) (h' := h_4) (by kernel_rfl) (by kernel_rfl) (Eq.trans (by kernel_rfl) (field_ptr (P := Try.prog) (h := h_4) (s := 30) (f := 1) (by kernel_rfl) e15)) ?_
  replace hF := obind_some hF; obtain ⟨v12, e16, hF⟩ := hF
  replace hF := obind_some hF; obtain ⟨t12, c17, hF⟩ := hF
  have c17 := avInt_some c17
  subst c17
  refine WL.val (d := (some 12)) (v := .int .i64 t12) (h' := h_4) (by kernel_rfl) (by kernel_rfl) (Eq.trans (by kernel_rfl) (load_cell (P := Try.prog) (h := h_4) (t := 3) (by kernel_rfl) e16)) ?_
  refine WL.val (d := (some 13)) (v := .agg ([.int .i64 t12, .int .i64 1048576] : List AV)) (h' := h_4) (by kernel_rfl) (by kernel_rfl) (by kernel_rfl) ?_
  replace hF := obind_some hF; obtain ⟨t14, e18, hF⟩ := hF
  refine WL.val (d := (some 14)) (v := t14) (h' := h_4) (by kernel_rfl) (by kernel_rfl) (Eq.trans (by kernel_rfl) (field_ptr (P := Try.prog) (h := h_4) (s := 35) (f := 2) (by kernel_rfl) e18)) ?_
  replace hF := obind_some hF; obtain ⟨v15, e19, hF⟩ := hF
  replace hF := obind_some hF; obtain ⟨t15, c20, hF⟩ := hF
  have c20 := avInt_some c20
  subst c20
  refine WL.val (d := (some 15)) (v := .int .i64 t15) (h' := h_4) (by kernel_rfl) (by kernel_rfl) (Eq.trans (by kernel_rfl) (load_cell (P := Try.prog) (h := h_4) (t := 3) (by kernel_rfl) e19)) ?_
  refine WL.val (d := (some 16)) (v := .agg ([.int .i64 t15, .int .i64 1048576] : List AV)) (h' := h_4) (by kernel_rfl) (by kernel_rfl) (by kernel_rfl) ?_
  replace hF := obind_some hF; obtain ⟨t17, e21, hF⟩ := hF
  refine WL.val (d := (some 17)) (v := .agg t17) (h' := h_4) (by kernel_rfl) (by kernel_rfl) (bld_ok (by kernel_rfl) e21) ?_
  replace hF := obind_some hF; obtain ⟨h_22, e23, hF⟩ := hF
  refine WL.eff (h' := h_22) (by kernel_rfl) (by kernel_rfl) (Eq.trans (by kernel_rfl) (store_row (P := Try.prog) (h := h_4) (t := 100) (v := (.agg t17)) (by kernel_rfl) (by kernel_rfl) e23)) ?_
  refine WL.nil (by kernel_rfl) ?_
  refine Go.weaken (l' := [(2, (newP h_2))]) (Fr.sub_cons (by kernel_rfl) (Fr.sub_nil _)) ?_
  refine n6 ?_
  refine W.ret (by kernel_rfl) ?_
  replace hF := obind_some hF; obtain ⟨w2, e24, hF⟩ := hF
  obtain ⟨hF, hF2⟩ := ret_inj hF; subst hF; subst hF2
  exact leave_of (rs := [.cell 2 100]) (vs := [.agg w2]) (by kernel_rfl) (res_cell (by kernel_rfl) (load_row (P := Try.prog) (h := h_22) (t := 100) (by kernel_rfl) (by kernel_rfl) e24) res_nil) (by kernel_rfl)
noncomputable def journal_numbers_fn (call : CallF) (n : Nat) : FnT := fun args h => match args with
  | [x0] => obind (avAgg x0) fun t0 => journal_numbers call n t0 h
  | _ => none
set_option maxRecDepth 100000 in
theorem journal_numbers_fn_eq (call : CallF) (n : Nat) (t0 : List AV) (h : AHeap) : journal_numbers_fn call n [.agg t0] h = journal_numbers call n t0 h :=
  (Eq.trans (obind_eq (fun t0 => journal_numbers call n t0 h) (avAgg_agg t0)) rfl)
theorem journal_numbers_holds {call : CallF} (hc : SaysAll Try.prog call) (n : Nat) : Holds Try.prog 40 (journal_numbers_fn call n) := by
  intro args h r h2 e
  unfold journal_numbers_fn at e
  split at e
  · replace e := obind_some e; obtain ⟨t0, c0, e⟩ := e; have c0 := avAgg_some c0; subst c0
    exact journal_numbers_ok hc e
  · cases e

noncomputable def ref22_Check (_ : CallF) (_ : Nat) (t0 : List AV) (h : AHeap) : R :=
  outK (opBox h 35 (some (.agg t0))) fun v1 h_2 =>
  obind (fldP 0 v1) fun t3 =>
  obind (ldCell h_2 t3) fun v4 =>
  obind (avInt .i64 v4) fun t4 =>
  lett (decide (t4 < 1)) fun (t5 : Bool) =>
  lett (fun (t10 : Bool) (h_10 : AHeap) =>
    lett (fun (t16 : Bool) (h_13 : AHeap) =>
      lett (fun (t22 : Bool) (h_16 : AHeap) =>
        lett (fun (t28 : Bool) (h_19 : AHeap) =>
          lett (fun (t34 : Bool) (h_22 : AHeap) =>
            lett (fun (t39 : Bool) (h_25 : AHeap) =>
              lett (fun (t44 : Bool) (h_28 : AHeap) =>
                ifB t44
                (
                  some (.ret (.int .i64 2), h_28))
                (
                  obind (fldP 4 v1) fun t45 =>
                  obind (ldCell h_28 t45) fun v46 =>
                  obind (avStr v46) fun t46 =>
                  lett (decide ((lenS t46) > 64)) fun (t48 : Bool) =>
                  ifB t48
                  (
                    some (.ret (.int .i64 3), h_28))
                  (
                    some (.ret (.int .i64 0), h_28)))) fun j44 =>
              ifB t39
              (
                j44 true h_25)
              (
                obind (fldP 3 v1) fun t41 =>
                obind (ldCell h_25 t41) fun v42 =>
                obind (avInt .i64 v42) fun t42 =>
                lett (decide (t42 > 1048576)) fun (t43 : Bool) =>
                j44 t43 h_25)) fun j39 =>
            ifB t34
            (
              j39 true h_22)
            (
              obind (fldP 3 v1) fun t36 =>
              obind (ldCell h_22 t36) fun v37 =>
              obind (avInt .i64 v37) fun t37 =>
              lett (decide (t37 < 1)) fun (t38 : Bool) =>
              j39 t38 h_22)) fun j34 =>
          ifB t28
          (
            j34 true h_19)
          (
            obind (fldP 1 v1) fun t30 =>
            obind (fldP 1 t30) fun t31 =>
            obind (ldCell h_19 t31) fun v32 =>
            obind (avInt .i64 v32) fun t32 =>
            lett (decide (t32 > 1048576)) fun (t33 : Bool) =>
            j34 t33 h_19)) fun j28 =>
        ifB t22
        (
          j28 true h_16)
        (
          obind (fldP 1 v1) fun t24 =>
          obind (fldP 1 t24) fun t25 =>
          obind (ldCell h_16 t25) fun v26 =>
          obind (avInt .i64 v26) fun t26 =>
          lett (decide (t26 < 1)) fun (t27 : Bool) =>
          j28 t27 h_16)) fun j22 =>
      ifB t16
      (
        j22 true h_13)
      (
        obind (fldP 1 v1) fun t18 =>
        obind (fldP 0 t18) fun t19 =>
        obind (ldCell h_13 t19) fun v20 =>
        obind (avInt .i64 v20) fun t20 =>
        lett (decide (t20 > 1099511627776)) fun (t21 : Bool) =>
        j22 t21 h_13)) fun j16 =>
    ifB t10
    (
      j16 true h_10)
    (
      obind (fldP 1 v1) fun t12 =>
      obind (fldP 0 t12) fun t13 =>
      obind (ldCell h_10 t13) fun v14 =>
      obind (avInt .i64 v14) fun t14 =>
      lett (decide (t14 < 1)) fun (t15 : Bool) =>
      j16 t15 h_10)) fun j10 =>
  ifB t5
  (
    j10 true h_2)
  (
    obind (fldP 0 v1) fun t7 =>
    obind (ldCell h_2 t7) fun v8 =>
    obind (avInt .i64 v8) fun t8 =>
    lett (decide (t8 > 1048576)) fun (t9 : Bool) =>
    j10 t9 h_2)
set_option maxHeartbeats 4000000 in
set_option maxRecDepth 20000 in
theorem ref22_Check_ok {call : CallF} (_ : SaysAll Try.prog call) {n : Nat} {t0 : List AV} {h : AHeap} {rR : ARes} {hR : AHeap} (hF : ref22_Check call n t0 h = some (rR, hR)) : Says Try.prog 17 [.agg t0] h rR hR := by
  unfold ref22_Check at hF
  refine says_of (fn := Try.f17) Try.func17 (c := codeOf Try.f17) (by kernel_rfl) (by kernel_rfl) (fun w0 m0 => ?_)
  refine W.weaken (l' := [(0, .agg t0)]) (Fr.sub_cons (by kernel_rfl) (Fr.sub_nil _)) ?_
  refine W.seqK (by kernel_rfl) (fun K1 n1 e1 r1 p1 => ?_)
  refine W.region (by kernel_rfl) ?_
  replace hF := outK_some hF; obtain ⟨v1, h_2, e3, hF⟩ := hF
  refine WL.val (d := (some 1)) (v := v1) (h' := h_2) (by kernel_rfl) (by kernel_rfl) (Eq.trans (by kernel_rfl) e3) ?_
  refine WL.val (d := (some 2)) (v := .int .i64 0) (h' := h_2) (by kernel_rfl) (by kernel_rfl) (by kernel_rfl) ?_
  refine WL.nil (by kernel_rfl) ?_
  refine Go.weaken (l' := [(1, v1)]) (Fr.sub_cons (by kernel_rfl) (Fr.sub_nil _)) ?_
  refine n1 ?_
  refine W.seqK (by kernel_rfl) (fun K4 n4 e4 r4 p4 => ?_)
  refine W.seqK (by kernel_rfl) (fun K5 n5 e5 r5 p5 => ?_)
  refine W.region (by kernel_rfl) ?_
  replace hF := obind_some hF; obtain ⟨t3, e6, hF⟩ := hF
  refine WL.val (d := (some 3)) (v := t3) (h' := h_2) (by kernel_rfl) (by kernel_rfl) (Eq.trans (by kernel_rfl) (field_ptr (P := Try.prog) (h := h_2) (s := 35) (f := 0) (by kernel_rfl) e6)) ?_
  replace hF := obind_some hF; obtain ⟨v4, e7, hF⟩ := hF
  replace hF := obind_some hF; obtain ⟨t4, c8, hF⟩ := hF
  have c8 := avInt_some c8
  subst c8
  refine WL.val (d := (some 4)) (v := .int .i64 t4) (h' := h_2) (by kernel_rfl) (by kernel_rfl) (Eq.trans (by kernel_rfl) (load_cell (P := Try.prog) (h := h_2) (t := 3) (by kernel_rfl) e7)) ?_
  replace hF := lett_some hF; obtain ⟨t5, e9, hF⟩ := hF
  refine WL.val (d := (some 5)) (v := .bool t5) (h' := h_2) (by kernel_rfl) (by kernel_rfl) (val_of AV.bool e9 (by kernel_rfl)) ?_
  refine WL.val (d := (some 6)) (v := .bool t5) (h' := h_2) (by kernel_rfl) (by kernel_rfl) (by kernel_rfl) ?_
  replace hF := lett_some hF; obtain ⟨j10, e11, hF⟩ := hF
  have J12 : ∀ (t10 : Bool) (h_10 : AHeap), j10 t10 h_10 = some (rR, hR) → WL Try.prog w0 m0 (Func.ntmps Try.f17) (Code.ops (Code.p1 (Code.p1 (Code.p2 (codeOf Try.f17))))) 8 K5 [(1, v1), (10, .bool t10)] [] h_10 := by
    intro t10 h_10 hF
    rw [e11] at hF
    refine WL.val (d := (some 11)) (v := .bool t10) (h' := h_10) (by kernel_rfl) (by kernel_rfl) (by kernel_rfl) ?_
    replace hF := lett_some hF; obtain ⟨j16, e14, hF⟩ := hF
    have J15 : ∀ (t16 : Bool) (h_13 : AHeap), j16 t16 h_13 = some (rR, hR) → WL Try.prog w0 m0 (Func.ntmps Try.f17) (Code.ops (Code.p1 (Code.p1 (Code.p2 (codeOf Try.f17))))) 14 K5 [(1, v1), (16, .bool t16)] [] h_13 := by
      intro t16 h_13 hF
      rw [e14] at hF
      refine WL.val (d := (some 17)) (v := .bool t16) (h' := h_13) (by kernel_rfl) (by kernel_rfl) (by kernel_rfl) ?_
      replace hF := lett_some hF; obtain ⟨j22, e17, hF⟩ := hF
      have J18 : ∀ (t22 : Bool) (h_16 : AHeap), j22 t22 h_16 = some (rR, hR) → WL Try.prog w0 m0 (Func.ntmps Try.f17) (Code.ops (Code.p1 (Code.p1 (Code.p2 (codeOf Try.f17))))) 20 K5 [(1, v1), (22, .bool t22)] [] h_16 := by
        intro t22 h_16 hF
        rw [e17] at hF
        refine WL.val (d := (some 23)) (v := .bool t22) (h' := h_16) (by kernel_rfl) (by kernel_rfl) (by kernel_rfl) ?_
        replace hF := lett_some hF; obtain ⟨j28, e20, hF⟩ := hF
        have J21 : ∀ (t28 : Bool) (h_19 : AHeap), j28 t28 h_19 = some (rR, hR) → WL Try.prog w0 m0 (Func.ntmps Try.f17) (Code.ops (Code.p1 (Code.p1 (Code.p2 (codeOf Try.f17))))) 26 K5 [(1, v1), (28, .bool t28)] [] h_19 := by
          intro t28 h_19 hF
          rw [e20] at hF
          refine WL.val (d := (some 29)) (v := .bool t28) (h' := h_19) (by kernel_rfl) (by kernel_rfl) (by kernel_rfl) ?_
          replace hF := lett_some hF; obtain ⟨j34, e23, hF⟩ := hF
          have J24 : ∀ (t34 : Bool) (h_22 : AHeap), j34 t34 h_22 = some (rR, hR) → WL Try.prog w0 m0 (Func.ntmps Try.f17) (Code.ops (Code.p1 (Code.p1 (Code.p2 (codeOf Try.f17))))) 32 K5 [(1, v1), (34, .bool t34)] [] h_22 := by
            intro t34 h_22 hF
            rw [e23] at hF
            refine WL.val (d := (some 35)) (v := .bool t34) (h' := h_22) (by kernel_rfl) (by kernel_rfl) (by kernel_rfl) ?_
            replace hF := lett_some hF; obtain ⟨j39, e26, hF⟩ := hF
            have J27 : ∀ (t39 : Bool) (h_25 : AHeap), j39 t39 h_25 = some (rR, hR) → WL Try.prog w0 m0 (Func.ntmps Try.f17) (Code.ops (Code.p1 (Code.p1 (Code.p2 (codeOf Try.f17))))) 37 K5 [(1, v1), (39, .bool t39)] [] h_25 := by
              intro t39 h_25 hF
              rw [e26] at hF
              refine WL.val (d := (some 40)) (v := .bool t39) (h' := h_25) (by kernel_rfl) (by kernel_rfl) (by kernel_rfl) ?_
              replace hF := lett_some hF; obtain ⟨j44, e29, hF⟩ := hF
              have J30 : ∀ (t44 : Bool) (h_28 : AHeap), j44 t44 h_28 = some (rR, hR) → WL Try.prog w0 m0 (Func.ntmps Try.f17) (Code.ops (Code.p1 (Code.p1 (Code.p2 (codeOf Try.f17))))) 42 K5 [(1, v1), (44, .bool t44)] [] h_28 := by
                intro t44 h_28 hF
                rw [e29] at hF
                refine WL.nil (by kernel_rfl) ?_
                refine Go.weaken (l' := [(1, v1), (44, .bool t44)]) (Fr.sub_cons (by kernel_rfl) (Fr.sub_cons (by kernel_rfl) (Fr.sub_nil _))) ?_
                refine n5 ?_
                cases t44 with
                | true =>
                  replace hF := ifB_t hF
                  refine W.cond_true (by kernel_rfl) (by kernel_rfl) ?_
                  refine W.seqK (by kernel_rfl) (fun K31 n31 e31 r31 p31 => ?_)
                  refine W.region (by kernel_rfl) ?_
                  refine WL.val (d := (some 2)) (v := .int .i64 2) (h' := h_28) (by kernel_rfl) (by kernel_rfl) (by kernel_rfl) ?_
                  refine WL.nil (by kernel_rfl) ?_
                  refine Go.weaken (l' := [(2, .int .i64 2)]) (Fr.sub_cons (by kernel_rfl) (Fr.sub_nil _)) ?_
                  refine n31 ?_
                  refine W.ret (by kernel_rfl) ?_
                  refine r4 ?_
                  obtain ⟨hF, hF2⟩ := ret_inj hF; subst hF; subst hF2
                  exact leave_of (rs := [.tmp 2]) (vs := [.int .i64 2]) (by kernel_rfl) (res_tmp (by kernel_rfl) res_nil) (by kernel_rfl)
                | false =>
                  replace hF := ifB_f hF
                  refine W.cond_false (by kernel_rfl) (by kernel_rfl) ?_
                  refine W.skip (by kernel_rfl) ?_
                  refine n4 ?_
                  refine W.seqK (by kernel_rfl) (fun K32 n32 e32 r32 p32 => ?_)
                  refine W.seqK (by kernel_rfl) (fun K33 n33 e33 r33 p33 => ?_)
                  refine W.region (by kernel_rfl) ?_
                  replace hF := obind_some hF; obtain ⟨t45, e34, hF⟩ := hF
                  refine WL.val (d := (some 45)) (v := t45) (h' := h_28) (by kernel_rfl) (by kernel_rfl) (Eq.trans (by kernel_rfl) (field_ptr (P := Try.prog) (h := h_28) (s := 35) (f := 3) (by kernel_rfl) e34)) ?_
                  replace hF := obind_some hF; obtain ⟨v46, e35, hF⟩ := hF
                  replace hF := obind_some hF; obtain ⟨t46, c36, hF⟩ := hF
                  have c36 := avStr_some c36
                  subst c36
                  refine WL.val (d := (some 46)) (v := strA t46) (h' := h_28) (by kernel_rfl) (by kernel_rfl) (Eq.trans (by kernel_rfl) (load_cell (P := Try.prog) (h := h_28) (t := 9) (by kernel_rfl) e35)) ?_
                  refine WL.val (d := (some 47)) (v := .int .i64 (lenS t46)) (h' := h_28) (by kernel_rfl) (by kernel_rfl) (by kernel_rfl) ?_
                  replace hF := lett_some hF; obtain ⟨t48, e37, hF⟩ := hF
                  refine WL.val (d := (some 48)) (v := .bool t48) (h' := h_28) (by kernel_rfl) (by kernel_rfl) (val_of AV.bool e37 (by kernel_rfl)) ?_
                  refine WL.nil (by kernel_rfl) ?_
                  refine Go.weaken (l' := [(48, .bool t48)]) (Fr.sub_cons (by kernel_rfl) (Fr.sub_nil _)) ?_
                  refine n33 ?_
                  cases t48 with
                  | true =>
                    replace hF := ifB_t hF
                    refine W.cond_true (by kernel_rfl) (by kernel_rfl) ?_
                    refine W.seqK (by kernel_rfl) (fun K38 n38 e38 r38 p38 => ?_)
                    refine W.region (by kernel_rfl) ?_
                    refine WL.val (d := (some 2)) (v := .int .i64 3) (h' := h_28) (by kernel_rfl) (by kernel_rfl) (by kernel_rfl) ?_
                    refine WL.nil (by kernel_rfl) ?_
                    refine Go.weaken (l' := [(2, .int .i64 3)]) (Fr.sub_cons (by kernel_rfl) (Fr.sub_nil _)) ?_
                    refine n38 ?_
                    refine W.ret (by kernel_rfl) ?_
                    refine r32 ?_
                    obtain ⟨hF, hF2⟩ := ret_inj hF; subst hF; subst hF2
                    exact leave_of (rs := [.tmp 2]) (vs := [.int .i64 3]) (by kernel_rfl) (res_tmp (by kernel_rfl) res_nil) (by kernel_rfl)
                  | false =>
                    replace hF := ifB_f hF
                    refine W.cond_false (by kernel_rfl) (by kernel_rfl) ?_
                    refine W.skip (by kernel_rfl) ?_
                    refine n32 ?_
                    refine W.seqK (by kernel_rfl) (fun K39 n39 e39 r39 p39 => ?_)
                    refine W.region (by kernel_rfl) ?_
                    refine WL.val (d := (some 2)) (v := .int .i64 0) (h' := h_28) (by kernel_rfl) (by kernel_rfl) (by kernel_rfl) ?_
                    refine WL.nil (by kernel_rfl) ?_
                    refine Go.weaken (l' := [(2, .int .i64 0)]) (Fr.sub_cons (by kernel_rfl) (Fr.sub_nil _)) ?_
                    refine n39 ?_
                    refine W.ret (by kernel_rfl) ?_
                    obtain ⟨hF, hF2⟩ := ret_inj hF; subst hF; subst hF2
                    exact leave_of (rs := [.tmp 2]) (vs := [.int .i64 0]) (by kernel_rfl) (res_tmp (by kernel_rfl) res_nil) (by kernel_rfl)
              cases t39 with
              | true =>
                replace hF := ifB_t hF
                refine WL.not (d := (some 41)) (by kernel_rfl) (by kernel_rfl) ?_
                refine WL.not (d := (some 42)) (by kernel_rfl) (by kernel_rfl) ?_
                refine WL.not (d := (some 43)) (by kernel_rfl) (by kernel_rfl) ?_
                refine WL.val (d := (some 44)) (v := .bool true) (h' := h_25) (by kernel_rfl) (by kernel_rfl) (by kernel_rfl) ?_
                exact WL.weaken (Fr.sub_cons (by kernel_rfl) (Fr.sub_cons (by kernel_rfl) (Fr.sub_nil _))) (J30 _ _ hF)
              | false =>
                replace hF := ifB_f hF
                replace hF := obind_some hF; obtain ⟨t41, e40, hF⟩ := hF
                refine WL.val (d := (some 41)) (v := t41) (h' := h_25) (by kernel_rfl) (by kernel_rfl) (Eq.trans (by kernel_rfl) (field_ptr (P := Try.prog) (h := h_25) (s := 35) (f := 2) (by kernel_rfl) e40)) ?_
                replace hF := obind_some hF; obtain ⟨v42, e41, hF⟩ := hF
                replace hF := obind_some hF; obtain ⟨t42, c42, hF⟩ := hF
                have c42 := avInt_some c42
                subst c42
                refine WL.val (d := (some 42)) (v := .int .i64 t42) (h' := h_25) (by kernel_rfl) (by kernel_rfl) (Eq.trans (by kernel_rfl) (load_cell (P := Try.prog) (h := h_25) (t := 3) (by kernel_rfl) e41)) ?_
                replace hF := lett_some hF; obtain ⟨t43, e43, hF⟩ := hF
                refine WL.val (d := (some 43)) (v := .bool t43) (h' := h_25) (by kernel_rfl) (by kernel_rfl) (val_of AV.bool e43 (by kernel_rfl)) ?_
                refine WL.val (d := (some 44)) (v := .bool t43) (h' := h_25) (by kernel_rfl) (by kernel_rfl) (by kernel_rfl) ?_
                exact WL.weaken (Fr.sub_cons (by kernel_rfl) (Fr.sub_cons (by kernel_rfl) (Fr.sub_nil _))) (J30 _ _ hF)
            cases t34 with
            | true =>
              replace hF := ifB_t hF
              refine WL.not (d := (some 36)) (by kernel_rfl) (by kernel_rfl) ?_
              refine WL.not (d := (some 37)) (by kernel_rfl) (by kernel_rfl) ?_
              refine WL.not (d := (some 38)) (by kernel_rfl) (by kernel_rfl) ?_
              refine WL.val (d := (some 39)) (v := .bool true) (h' := h_22) (by kernel_rfl) (by kernel_rfl) (by kernel_rfl) ?_
              exact WL.weaken (Fr.sub_cons (by kernel_rfl) (Fr.sub_cons (by kernel_rfl) (Fr.sub_nil _))) (J27 _ _ hF)
            | false =>
              replace hF := ifB_f hF
              replace hF := obind_some hF; obtain ⟨t36, e44, hF⟩ := hF
              refine WL.val (d := (some 36)) (v := t36) (h' := h_22) (by kernel_rfl) (by kernel_rfl) (Eq.trans (by kernel_rfl) (field_ptr (P := Try.prog) (h := h_22) (s := 35) (f := 2) (by kernel_rfl) e44)) ?_
              replace hF := obind_some hF; obtain ⟨v37, e45, hF⟩ := hF
              replace hF := obind_some hF; obtain ⟨t37, c46, hF⟩ := hF
              have c46 := avInt_some c46
              subst c46
              refine WL.val (d := (some 37)) (v := .int .i64 t37) (h' := h_22) (by kernel_rfl) (by kernel_rfl) (Eq.trans (by kernel_rfl) (load_cell (P := Try.prog) (h := h_22) (t := 3) (by kernel_rfl) e45)) ?_
              replace hF := lett_some hF; obtain ⟨t38, e47, hF⟩ := hF
              refine WL.val (d := (some 38)) (v := .bool t38) (h' := h_22) (by kernel_rfl) (by kernel_rfl) (val_of AV.bool e47 (by kernel_rfl)) ?_
              refine WL.val (d := (some 39)) (v := .bool t38) (h' := h_22) (by kernel_rfl) (by kernel_rfl) (by kernel_rfl) ?_
              exact WL.weaken (Fr.sub_cons (by kernel_rfl) (Fr.sub_cons (by kernel_rfl) (Fr.sub_nil _))) (J27 _ _ hF)
          cases t28 with
          | true =>
            replace hF := ifB_t hF
            refine WL.not (d := (some 30)) (by kernel_rfl) (by kernel_rfl) ?_
            refine WL.not (d := (some 31)) (by kernel_rfl) (by kernel_rfl) ?_
            refine WL.not (d := (some 32)) (by kernel_rfl) (by kernel_rfl) ?_
            refine WL.not (d := (some 33)) (by kernel_rfl) (by kernel_rfl) ?_
            refine WL.val (d := (some 34)) (v := .bool true) (h' := h_19) (by kernel_rfl) (by kernel_rfl) (by kernel_rfl) ?_
            exact WL.weaken (Fr.sub_cons (by kernel_rfl) (Fr.sub_cons (by kernel_rfl) (Fr.sub_nil _))) (J24 _ _ hF)
          | false =>
            replace hF := ifB_f hF
            replace hF := obind_some hF; obtain ⟨t30, e48, hF⟩ := hF
            refine WL.val (d := (some 30)) (v := t30) (h' := h_19) (by kernel_rfl) (by kernel_rfl) (Eq.trans (by kernel_rfl) (field_ptr (P := Try.prog) (h := h_19) (s := 35) (f := 1) (by kernel_rfl) e48)) ?_
            replace hF := obind_some hF; obtain ⟨t31, e49, hF⟩ := hF
            refine WL.val (d := (some 31)) (v := t31) (h' := h_19) (by kernel_rfl) (by kernel_rfl) (Eq.trans (by kernel_rfl) (field_ptr (P := Try.prog) (h := h_19) (s := 30) (f := 1) (by kernel_rfl) e49)) ?_
            replace hF := obind_some hF; obtain ⟨v32, e50, hF⟩ := hF
            replace hF := obind_some hF; obtain ⟨t32, c51, hF⟩ := hF
            have c51 := avInt_some c51
            subst c51
            refine WL.val (d := (some 32)) (v := .int .i64 t32) (h' := h_19) (by kernel_rfl) (by kernel_rfl) (Eq.trans (by kernel_rfl) (load_cell (P := Try.prog) (h := h_19) (t := 3) (by kernel_rfl) e50)) ?_
            replace hF := lett_some hF; obtain ⟨t33, e52, hF⟩ := hF
            refine WL.val (d := (some 33)) (v := .bool t33) (h' := h_19) (by kernel_rfl) (by kernel_rfl) (val_of AV.bool e52 (by kernel_rfl)) ?_
            refine WL.val (d := (some 34)) (v := .bool t33) (h' := h_19) (by kernel_rfl) (by kernel_rfl) (by kernel_rfl) ?_
            exact WL.weaken (Fr.sub_cons (by kernel_rfl) (Fr.sub_cons (by kernel_rfl) (Fr.sub_nil _))) (J24 _ _ hF)
        cases t22 with
        | true =>
          replace hF := ifB_t hF
          refine WL.not (d := (some 24)) (by kernel_rfl) (by kernel_rfl) ?_
          refine WL.not (d := (some 25)) (by kernel_rfl) (by kernel_rfl) ?_
          refine WL.not (d := (some 26)) (by kernel_rfl) (by kernel_rfl) ?_
          refine WL.not (d := (some 27)) (by kernel_rfl) (by kernel_rfl) ?_
          refine WL.val (d := (some 28)) (v := .bool true) (h' := h_16) (by kernel_rfl) (by kernel_rfl) (by kernel_rfl) ?_
          exact WL.weaken (Fr.sub_cons (by kernel_rfl) (Fr.sub_cons (by kernel_rfl) (Fr.sub_nil _))) (J21 _ _ hF)
        | false =>
          replace hF := ifB_f hF
          replace hF := obind_some hF; obtain ⟨t24, e53, hF⟩ := hF
          refine WL.val (d := (some 24)) (v := t24) (h' := h_16) (by kernel_rfl) (by kernel_rfl) (Eq.trans (by kernel_rfl) (field_ptr (P := Try.prog) (h := h_16) (s := 35) (f := 1) (by kernel_rfl) e53)) ?_
          replace hF := obind_some hF; obtain ⟨t25, e54, hF⟩ := hF
          refine WL.val (d := (some 25)) (v := t25) (h' := h_16) (by kernel_rfl) (by kernel_rfl) (Eq.trans (by kernel_rfl) (field_ptr (P := Try.prog) (h := h_16) (s := 30) (f := 1) (by kernel_rfl) e54)) ?_
          replace hF := obind_some hF; obtain ⟨v26, e55, hF⟩ := hF
          replace hF := obind_some hF; obtain ⟨t26, c56, hF⟩ := hF
          have c56 := avInt_some c56
          subst c56
          refine WL.val (d := (some 26)) (v := .int .i64 t26) (h' := h_16) (by kernel_rfl) (by kernel_rfl) (Eq.trans (by kernel_rfl) (load_cell (P := Try.prog) (h := h_16) (t := 3) (by kernel_rfl) e55)) ?_
          replace hF := lett_some hF; obtain ⟨t27, e57, hF⟩ := hF
          refine WL.val (d := (some 27)) (v := .bool t27) (h' := h_16) (by kernel_rfl) (by kernel_rfl) (val_of AV.bool e57 (by kernel_rfl)) ?_
          refine WL.val (d := (some 28)) (v := .bool t27) (h' := h_16) (by kernel_rfl) (by kernel_rfl) (by kernel_rfl) ?_
          exact WL.weaken (Fr.sub_cons (by kernel_rfl) (Fr.sub_cons (by kernel_rfl) (Fr.sub_nil _))) (J21 _ _ hF)
      cases t16 with
      | true =>
        replace hF := ifB_t hF
        refine WL.not (d := (some 18)) (by kernel_rfl) (by kernel_rfl) ?_
        refine WL.not (d := (some 19)) (by kernel_rfl) (by kernel_rfl) ?_
        refine WL.not (d := (some 20)) (by kernel_rfl) (by kernel_rfl) ?_
        refine WL.not (d := (some 21)) (by kernel_rfl) (by kernel_rfl) ?_
        refine WL.val (d := (some 22)) (v := .bool true) (h' := h_13) (by kernel_rfl) (by kernel_rfl) (by kernel_rfl) ?_
        exact WL.weaken (Fr.sub_cons (by kernel_rfl) (Fr.sub_cons (by kernel_rfl) (Fr.sub_nil _))) (J18 _ _ hF)
      | false =>
        replace hF := ifB_f hF
        replace hF := obind_some hF; obtain ⟨t18, e58, hF⟩ := hF
        refine WL.val (d := (some 18)) (v := t18) (h' := h_13) (by kernel_rfl) (by kernel_rfl) (Eq.trans (by kernel_rfl) (field_ptr (P := Try.prog) (h := h_13) (s := 35) (f := 1) (by kernel_rfl) e58)) ?_
        replace hF := obind_some hF; obtain ⟨t19, e59, hF⟩ := hF
        refine WL.val (d := (some 19)) (v := t19) (h' := h_13) (by kernel_rfl) (by kernel_rfl) (Eq.trans (by kernel_rfl) (field_ptr (P := Try.prog) (h := h_13) (s := 30) (f := 0) (by kernel_rfl) e59)) ?_
        replace hF := obind_some hF; obtain ⟨v20, e60, hF⟩ := hF
        replace hF := obind_some hF; obtain ⟨t20, c61, hF⟩ := hF
        have c61 := avInt_some c61
        subst c61
        refine WL.val (d := (some 20)) (v := .int .i64 t20) (h' := h_13) (by kernel_rfl) (by kernel_rfl) (Eq.trans (by kernel_rfl) (load_cell (P := Try.prog) (h := h_13) (t := 3) (by kernel_rfl) e60)) ?_
        replace hF := lett_some hF; obtain ⟨t21, e62, hF⟩ := hF
        refine WL.val (d := (some 21)) (v := .bool t21) (h' := h_13) (by kernel_rfl) (by kernel_rfl) (val_of AV.bool e62 (by kernel_rfl)) ?_
        refine WL.val (d := (some 22)) (v := .bool t21) (h' := h_13) (by kernel_rfl) (by kernel_rfl) (by kernel_rfl) ?_
        exact WL.weaken (Fr.sub_cons (by kernel_rfl) (Fr.sub_cons (by kernel_rfl) (Fr.sub_nil _))) (J18 _ _ hF)
    cases t10 with
    | true =>
      replace hF := ifB_t hF
      refine WL.not (d := (some 12)) (by kernel_rfl) (by kernel_rfl) ?_
      refine WL.not (d := (some 13)) (by kernel_rfl) (by kernel_rfl) ?_
      refine WL.not (d := (some 14)) (by kernel_rfl) (by kernel_rfl) ?_
      refine WL.not (d := (some 15)) (by kernel_rfl) (by kernel_rfl) ?_
      refine WL.val (d := (some 16)) (v := .bool true) (h' := h_10) (by kernel_rfl) (by kernel_rfl) (by kernel_rfl) ?_
      exact WL.weaken (Fr.sub_cons (by kernel_rfl) (Fr.sub_cons (by kernel_rfl) (Fr.sub_nil _))) (J15 _ _ hF)
    | false =>
      replace hF := ifB_f hF
      replace hF := obind_some hF; obtain ⟨t12, e63, hF⟩ := hF
      refine WL.val (d := (some 12)) (v := t12) (h' := h_10) (by kernel_rfl) (by kernel_rfl) (Eq.trans (by kernel_rfl) (field_ptr (P := Try.prog) (h := h_10) (s := 35) (f := 1) (by kernel_rfl) e63)) ?_
      replace hF := obind_some hF; obtain ⟨t13, e64, hF⟩ := hF
      refine WL.val (d := (some 13)) (v := t13) (h' := h_10) (by kernel_rfl) (by kernel_rfl) (Eq.trans (by kernel_rfl) (field_ptr (P := Try.prog) (h := h_10) (s := 30) (f := 0) (by kernel_rfl) e64)) ?_
      replace hF := obind_some hF; obtain ⟨v14, e65, hF⟩ := hF
      replace hF := obind_some hF; obtain ⟨t14, c66, hF⟩ := hF
      have c66 := avInt_some c66
      subst c66
      refine WL.val (d := (some 14)) (v := .int .i64 t14) (h' := h_10) (by kernel_rfl) (by kernel_rfl) (Eq.trans (by kernel_rfl) (load_cell (P := Try.prog) (h := h_10) (t := 3) (by kernel_rfl) e65)) ?_
      replace hF := lett_some hF; obtain ⟨t15, e67, hF⟩ := hF
      refine WL.val (d := (some 15)) (v := .bool t15) (h' := h_10) (by kernel_rfl) (by kernel_rfl) (val_of AV.bool e67 (by kernel_rfl)) ?_
      refine WL.val (d := (some 16)) (v := .bool t15) (h' := h_10) (by kernel_rfl) (by kernel_rfl) (by kernel_rfl) ?_
      exact WL.weaken (Fr.sub_cons (by kernel_rfl) (Fr.sub_cons (by kernel_rfl) (Fr.sub_nil _))) (J15 _ _ hF)
  cases t5 with
  | true =>
    replace hF := ifB_t hF
    refine WL.not (d := (some 7)) (by kernel_rfl) (by kernel_rfl) ?_
    refine WL.not (d := (some 8)) (by kernel_rfl) (by kernel_rfl) ?_
    refine WL.not (d := (some 9)) (by kernel_rfl) (by kernel_rfl) ?_
    refine WL.val (d := (some 10)) (v := .bool true) (h' := h_2) (by kernel_rfl) (by kernel_rfl) (by kernel_rfl) ?_
    exact WL.weaken (Fr.sub_cons (by kernel_rfl) (Fr.sub_cons (by kernel_rfl) (Fr.sub_nil _))) (J12 _ _ hF)
  | false =>
    replace hF := ifB_f hF
    replace hF := obind_some hF; obtain ⟨t7, e68, hF⟩ := hF
    refine WL.val (d := (some 7)) (v := t7) (h' := h_2) (by kernel_rfl) (by kernel_rfl) (Eq.trans (by kernel_rfl) (field_ptr (P := Try.prog) (h := h_2) (s := 35) (f := 0) (by kernel_rfl) e68)) ?_
    replace hF := obind_some hF; obtain ⟨v8, e69, hF⟩ := hF
    replace hF := obind_some hF; obtain ⟨t8, c70, hF⟩ := hF
    have c70 := avInt_some c70
    subst c70
    refine WL.val (d := (some 8)) (v := .int .i64 t8) (h' := h_2) (by kernel_rfl) (by kernel_rfl) (Eq.trans (by kernel_rfl) (load_cell (P := Try.prog) (h := h_2) (t := 3) (by kernel_rfl) e69)) ?_
    replace hF := lett_some hF; obtain ⟨t9, e71, hF⟩ := hF
    refine WL.val (d := (some 9)) (v := .bool t9) (h' := h_2) (by kernel_rfl) (by kernel_rfl) (val_of AV.bool e71 (by kernel_rfl)) ?_
    refine WL.val (d := (some 10)) (v := .bool t9) (h' := h_2) (by kernel_rfl) (by kernel_rfl) (by kernel_rfl) ?_
    exact WL.weaken (Fr.sub_cons (by kernel_rfl) (Fr.sub_cons (by kernel_rfl) (Fr.sub_nil _))) (J12 _ _ hF)
noncomputable def ref22_Check_fn (call : CallF) (n : Nat) : FnT := fun args h => match args with
  | [x0] => obind (avAgg x0) fun t0 => ref22_Check call n t0 h
  | _ => none
set_option maxRecDepth 100000 in
theorem ref22_Check_fn_eq (call : CallF) (n : Nat) (t0 : List AV) (h : AHeap) : ref22_Check_fn call n [.agg t0] h = ref22_Check call n t0 h :=
  (Eq.trans (obind_eq (fun t0 => ref22_Check call n t0 h) (avAgg_agg t0)) rfl)
theorem ref22_Check_holds {call : CallF} (hc : SaysAll Try.prog call) (n : Nat) : Holds Try.prog 17 (ref22_Check_fn call n) := by
  intro args h r h2 e
  unfold ref22_Check_fn at e
  split at e
  · replace e := obind_some e; obtain ⟨t0, c0, e⟩ := e; have c0 := avAgg_some c0; subst c0
    exact ref22_Check_ok hc e
  · cases e

noncomputable def law22_JournalChecks (call : CallF) (_ : Nat) (t0 : List AV) (h : AHeap) : R :=
  outK (opBox h 35 (some (.agg t0))) fun v1 h_2 =>
  callN (call 7 [] h_2) fun r3 h_6 =>
  obind (avBool r3) fun t3 =>
  lett (!t3) fun (t4 : Bool) =>
  ifB t4
  (
    some (.ret (.bool false), h_6))
  (
    obind (ldRow h_6 5 v1) fun t5 =>
    obind (ldRow h_6 5 v1) fun t7 =>
    callN (call 16 [.agg t5] h_6) fun r6 h_14 =>
    obind (avInt .i64 r6) fun t6 =>
    chk (reLoad Try.prog h_14 35 v1 (.agg t7) && (true && true)) <|
    callN (call 17 [.agg t7] h_14) fun r8 h_18 =>
    obind (avInt .i64 r8) fun t8 =>
    lett ((t6 : Int) == t8) fun (t9 : Bool) =>
    some (.ret (.bool t9), h_18))
set_option maxHeartbeats 4000000 in
set_option maxRecDepth 20000 in
theorem law22_JournalChecks_ok {call : CallF} (hc : SaysAll Try.prog call) {n : Nat} {t0 : List AV} {h : AHeap} {rR : ARes} {hR : AHeap} (hF : law22_JournalChecks call n t0 h = some (rR, hR)) : Says Try.prog 4 [.agg t0] h rR hR := by
  unfold law22_JournalChecks at hF
  refine says_of (fn := Try.f4) Try.func4 (c := codeOf Try.f4) (by kernel_rfl) (by kernel_rfl) (fun w0 m0 => ?_)
  refine W.weaken (l' := [(0, .agg t0)]) (Fr.sub_cons (by kernel_rfl) (Fr.sub_nil _)) ?_
  refine W.seqK (by kernel_rfl) (fun K1 n1 e1 r1 p1 => ?_)
  refine W.region (by kernel_rfl) ?_
  replace hF := outK_some hF; obtain ⟨v1, h_2, e3, hF⟩ := hF
  refine WL.val (d := (some 1)) (v := v1) (h' := h_2) (by kernel_rfl) (by kernel_rfl) (Eq.trans (by kernel_rfl) e3) ?_
  refine WL.val (d := (some 2)) (v := .bool false) (h' := h_2) (by kernel_rfl) (by kernel_rfl) (by kernel_rfl) ?_
  refine WL.nil (by kernel_rfl) ?_
  refine Go.weaken (l' := [(1, v1)]) (Fr.sub_cons (by kernel_rfl) (Fr.sub_nil _)) ?_
  refine n1 ?_
  refine W.seqK (by kernel_rfl) (fun K4 n4 e4 r4 p4 => ?_)
  refine W.seqK (by kernel_rfl) (fun K5 n5 e5 r5 p5 => ?_)
  refine W.region (by kernel_rfl) ?_
  replace hF := callN_some hF; obtain ⟨r3, h_6, e7, hF⟩ := hF
  replace hF := obind_some hF; obtain ⟨t3, c8, hF⟩ := hF
  have c8 := avBool_some c8
  subst c8
  refine WL.call (hc.ok w0) (d := (some 3)) (by kernel_rfl) (by kernel_rfl) (by kernel_rfl) e7 ?_
  replace hF := lett_some hF; obtain ⟨t4, e9, hF⟩ := hF
  refine WL.val (d := (some 4)) (v := .bool t4) (h' := h_6) (by kernel_rfl) (by kernel_rfl) (val_of AV.bool e9 (by kernel_rfl)) ?_
  refine WL.nil (by kernel_rfl) ?_
  refine Go.weaken (l' := [(1, v1), (4, .bool t4)]) (Fr.sub_cons (by kernel_rfl) (Fr.sub_cons (by kernel_rfl) (Fr.sub_nil _))) ?_
  refine n5 ?_
  cases t4 with
  | true =>
    replace hF := ifB_t hF
    refine W.cond_true (by kernel_rfl) (by kernel_rfl) ?_
    refine W.seqK (by kernel_rfl) (fun K10 n10 e10 r10 p10 => ?_)
    refine W.region (by kernel_rfl) ?_
    refine WL.val (d := (some 2)) (v := .bool false) (h' := h_6) (by kernel_rfl) (by kernel_rfl) (by kernel_rfl) ?_
    refine WL.nil (by kernel_rfl) ?_
    refine Go.weaken (l' := [(2, .bool false)]) (Fr.sub_cons (by kernel_rfl) (Fr.sub_nil _)) ?_
    refine n10 ?_
    refine W.ret (by kernel_rfl) ?_
    refine r4 ?_
    obtain ⟨hF, hF2⟩ := ret_inj hF; subst hF; subst hF2
    exact leave_of (rs := [.tmp 2]) (vs := [.bool false]) (by kernel_rfl) (res_tmp (by kernel_rfl) res_nil) (by kernel_rfl)
  | false =>
    replace hF := ifB_f hF
    refine W.cond_false (by kernel_rfl) (by kernel_rfl) ?_
    refine W.skip (by kernel_rfl) ?_
    refine n4 ?_
    refine W.seqK (by kernel_rfl) (fun K11 n11 e11 r11 p11 => ?_)
    refine W.draw (by kernel_rfl) (hc.ok w0) (plan := [0, 2, 1, 3, 4, 5]) (by kernel_rfl) (by kernel_rfl) (by kernel_rfl) ?_
    replace hF := obind_some hF; obtain ⟨t5, e12, hF⟩ := hF
    refine WD.val (d := (some 5)) (v := .agg t5) (h' := h_6) (by kernel_rfl) (by kernel_rfl) (Eq.trans (by kernel_rfl) (load_row (P := Try.prog) (h := h_6) (t := 35) (by kernel_rfl) (by kernel_rfl) e12)) (k := 1) (by kernel_rfl) (fun e => absurd e (by decide)) (by decide) ?_
    replace hF := obind_some hF; obtain ⟨t7, e13, hF⟩ := hF
    refine WD.val (d := (some 7)) (v := .agg t7) (h' := h_6) (by kernel_rfl) (by kernel_rfl) (Eq.trans (by kernel_rfl) (load_row (P := Try.prog) (h := h_6) (t := 35) (by kernel_rfl) (by kernel_rfl) e13)) (k := 1) (by kernel_rfl) (fun e => absurd e (by decide)) (by decide) ?_
    replace hF := callN_some hF; obtain ⟨r6, h_14, e15, hF⟩ := hF
    replace hF := obind_some hF; obtain ⟨t6, c16, hF⟩ := hF
    have c16 := avInt_some c16
    subst c16
    replace hF := chk_some hF; obtain ⟨k17, hF⟩ := hF
    refine WD.call (d := (some 6)) (by kernel_rfl) (by kernel_rfl) (by kernel_rfl) e15 (k := 2) (by kernel_rfl) (fun _ => (Eq.trans (by kernel_rfl) k17)) (by decide) ?_
    replace hF := callN_some hF; obtain ⟨r8, h_18, e19, hF⟩ := hF
    replace hF := obind_some hF; obtain ⟨t8, c20, hF⟩ := hF
    have c20 := avInt_some c20
    subst c20
    refine WD.call (d := (some 8)) (by kernel_rfl) (by kernel_rfl) (by kernel_rfl) e19 (k := 2) (by kernel_rfl) (fun _ => (by kernel_rfl)) (by decide) ?_
    replace hF := lett_some hF; obtain ⟨t9, e21, hF⟩ := hF
    refine WD.val (d := (some 9)) (v := .bool t9) (h' := h_18) (by kernel_rfl) (by kernel_rfl) (val_of AV.bool e21 (by kernel_rfl)) (k := 0) (by kernel_rfl) (fun e => absurd e (by decide)) (by decide) ?_
    refine WD.val (d := (some 2)) (v := .bool t9) (h' := h_18) (by kernel_rfl) (by kernel_rfl) (by kernel_rfl) (k := 0) (by kernel_rfl) (fun e => absurd e (by decide)) (by decide) ?_
    refine WD.nil ?_
    refine Go.weaken (l' := [(2, .bool t9)]) (Fr.sub_cons (by kernel_rfl) (Fr.sub_nil _)) ?_
    refine n11 ?_
    refine W.ret (by kernel_rfl) ?_
    obtain ⟨hF, hF2⟩ := ret_inj hF; subst hF; subst hF2
    exact leave_of (rs := [.tmp 2]) (vs := [.bool t9]) (by kernel_rfl) (res_tmp (by kernel_rfl) res_nil) (by kernel_rfl)
noncomputable def law22_JournalChecks_fn (call : CallF) (n : Nat) : FnT := fun args h => match args with
  | [x0] => obind (avAgg x0) fun t0 => law22_JournalChecks call n t0 h
  | _ => none
set_option maxRecDepth 100000 in
theorem law22_JournalChecks_fn_eq (call : CallF) (n : Nat) (t0 : List AV) (h : AHeap) : law22_JournalChecks_fn call n [.agg t0] h = law22_JournalChecks call n t0 h :=
  (Eq.trans (obind_eq (fun t0 => law22_JournalChecks call n t0 h) (avAgg_agg t0)) rfl)
theorem law22_JournalChecks_holds {call : CallF} (hc : SaysAll Try.prog call) (n : Nat) : Holds Try.prog 4 (law22_JournalChecks_fn call n) := by
  intro args h r h2 e
  unfold law22_JournalChecks_fn at e
  split at e
  · replace e := obind_some e; obtain ⟨t0, c0, e⟩ := e; have c0 := avAgg_some c0; subst c0
    exact law22_JournalChecks_ok hc e
  · cases e

end Go.Proofs.Ytbhblbffdmiepaa
