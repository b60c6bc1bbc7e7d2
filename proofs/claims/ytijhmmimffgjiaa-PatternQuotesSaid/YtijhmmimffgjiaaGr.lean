/- Plain functions in place of the program's, and that their calls come to what they say. -/
import Derived.Test.YtijhmmimffgjiaaFrame
import Derived.Test.YtijhmmimffgjiaaAbs29
namespace Go.Proofs.Ytijhmmimffgjiaa
open Go.RowKit Abs

noncomputable def ref09_Quote_L0b (call : CallF) (t0 : Bytes) (k11 : AV → AHeap → R) (self : AV → Int → AHeap → R) (t3_23 : AV) (t4 : Int) (h_24 : AHeap) : R :=
  lett (decide (t4 < (lenS t0))) fun (t11 : Bool) =>
  ifB t11
  (
    obind (idxS t0 t4) fun t17 =>
    callN (call 32 [.int .u8 t17] h_24) fun r18 h_31 =>
    obind (avStr r18) fun t18 =>
    outK (opAppend Try.prog h_31 50 9 t3_23 (strA t18)) fun v19 h_34 =>
    lett (IntKind.i64.wrap (t4 + 1)) fun (t13 : Int) =>
    self v19 t13 h_34)
  (
    k11 t3_23 h_24)
noncomputable def ref09_Quote_L0 (call : CallF) (t0 : Bytes) (k11 : AV → AHeap → R) : Nat → AV → Int → AHeap → R := iterR (fun _ _ _ => none) (ref09_Quote_L0b call t0 k11)
theorem ref09_Quote_L0_s (call : CallF) (t0 : Bytes) (k11 : AV → AHeap → R) (m : Nat) : ref09_Quote_L0 call t0 k11 (m + 1) = ref09_Quote_L0b call t0 k11 (ref09_Quote_L0 call t0 k11 m) := rfl
noncomputable def ref09_Quote (call : CallF) (n : Nat) (t0 : Bytes) (h : AHeap) : R :=
  outK (bldSl Try.prog h 50 1 [(0, .int .u8 34)]) fun v6 h_4 =>
  outK (opAppend Try.prog h_4 50 50 AV.nsl v6) fun v7 h_6 =>
  lett (fun (t3 : AV) (h_12 : AHeap) =>
    outK (bldSl Try.prog h_12 50 1 [(0, .int .u8 34)]) fun v21 h_14 =>
    outK (opAppend Try.prog h_14 50 50 t3 v21) fun v22 h_16 =>
    outK (opConv Try.prog h_16 50 9 (some v22)) fun v24 h_19 =>
    obind (avStr v24) fun t24 =>
    some (.ret (strA t24), h_19)) fun k11 =>
  ref09_Quote_L0 call t0 k11 n v7 0 h_6
set_option maxHeartbeats 4000000 in
set_option maxRecDepth 20000 in
theorem ref09_Quote_ok {call : CallF} (hc : SaysAll Try.prog call) {n : Nat} {t0 : Bytes} {h : AHeap} {rR : ARes} {hR : AHeap} (hF : ref09_Quote call n t0 h = some (rR, hR)) : Says Try.prog 17 [strA t0] h rR hR := by
  unfold ref09_Quote at hF
  refine says_of (fn := Try.f17) Try.func17 (c := codeOf Try.f17) (by kernel_rfl) (by kernel_rfl) (fun w0 m0 => ?_)
  refine W.weaken (l' := [(0, strA t0)]) (Fr.sub_cons (by kernel_rfl) (Fr.sub_nil _)) ?_
  refine W.seqK (by kernel_rfl) (fun K1 n1 e1 r1 p1 => ?_)
  refine W.region (by kernel_rfl) ?_
  refine WL.val (d := (some 2)) (v := strA ([] : Bytes)) (h' := h) (by kernel_rfl) (by kernel_rfl) (by kernel_rfl) ?_
  refine WL.nil (by kernel_rfl) ?_
  refine Go.weaken (l' := [(0, strA t0)]) (Fr.sub_cons (by kernel_rfl) (Fr.sub_nil _)) ?_
  refine n1 ?_
  refine W.seqK (by kernel_rfl) (fun K2 n2 e2 r2 p2 => ?_)
  refine W.region (by kernel_rfl) ?_
  refine WL.val (d := (some 3)) (v := AV.nsl) (h' := h) (by kernel_rfl) (by kernel_rfl) (by kernel_rfl) ?_
  refine WL.nil (by kernel_rfl) ?_
  refine Go.weaken (l' := [(0, strA t0), (3, AV.nsl)]) (Fr.sub_cons (by kernel_rfl) (Fr.sub_cons (by kernel_rfl) (Fr.sub_nil _))) ?_
  refine n2 ?_
  refine W.seqK (by kernel_rfl) (fun K3 n3 e3 r3 p3 => ?_)
  refine W.region (by kernel_rfl) ?_
  refine WL.val (d := (some 5)) (v := AV.nsl) (h' := h) (by kernel_rfl) (by kernel_rfl) (by kernel_rfl) ?_
  replace hF := outK_some hF; obtain ⟨v6, h_4, e5, hF⟩ := hF
  refine WL.val (d := (some 6)) (v := v6) (h' := h_4) (by kernel_rfl) (by kernel_rfl) (Eq.trans (by kernel_rfl) e5) ?_
  replace hF := outK_some hF; obtain ⟨v7, h_6, e7, hF⟩ := hF
  refine WL.val (d := (some 7)) (v := v7) (h' := h_6) (by kernel_rfl) (by kernel_rfl) (Eq.trans (by kernel_rfl) e7) ?_
  refine WL.val (d := (some 3)) (v := v7) (h' := h_6) (by kernel_rfl) (by kernel_rfl) (by kernel_rfl) ?_
  refine WL.nil (by kernel_rfl) ?_
  refine Go.weaken (l' := [(0, strA t0), (3, v7)]) (Fr.sub_cons (by kernel_rfl) (Fr.sub_cons (by kernel_rfl) (Fr.sub_nil _))) ?_
  refine n3 ?_
  refine W.seqK (by kernel_rfl) (fun K8 n8 e8 r8 p8 => ?_)
  refine W.seqK (by kernel_rfl) (fun K9 n9 e9 r9 p9 => ?_)
  refine W.region (by kernel_rfl) ?_
  refine WL.val (d := (some 4)) (v := .int .i64 0) (h' := h_6) (by kernel_rfl) (by kernel_rfl) (by kernel_rfl) ?_
  refine WL.nil (by kernel_rfl) ?_
  refine Go.weaken (l' := [(0, strA t0), (3, v7), (4, .int .i64 0)]) (Fr.sub_cons (by kernel_rfl) (Fr.sub_cons (by kernel_rfl) (Fr.sub_cons (by kernel_rfl) (Fr.sub_nil _)))) ?_
  refine n9 ?_
  replace hF := lett_some hF; obtain ⟨k11, e11, hF⟩ := hF
  have J11 : ∀ (t3 : AV) (h_12 : AHeap), k11 t3 h_12 = some (rR, hR) → Go w0 m0 (Func.ntmps Try.f17) (K8 .normal) [(3, t3)] [] h_12 := by
    intro t3 h_12 hF
    rw [e11] at hF
    refine n8 ?_
    refine W.seqK (by kernel_rfl) (fun K13 n13 e13 r13 p13 => ?_)
    refine W.region (by kernel_rfl) ?_
    refine WL.val (d := (some 20)) (v := t3) (h' := h_12) (by kernel_rfl) (by kernel_rfl) (by kernel_rfl) ?_
    replace hF := outK_some hF; obtain ⟨v21, h_14, e15, hF⟩ := hF
    refine WL.val (d := (some 21)) (v := v21) (h' := h_14) (by kernel_rfl) (by kernel_rfl) (Eq.trans (by kernel_rfl) e15) ?_
    replace hF := outK_some hF; obtain ⟨v22, h_16, e17, hF⟩ := hF
    refine WL.val (d := (some 22)) (v := v22) (h' := h_16) (by kernel_rfl) (by kernel_rfl) (Eq.trans (by kernel_rfl) e17) ?_
    refine WL.val (d := (some 3)) (v := v22) (h' := h_16) (by kernel_rfl) (by kernel_rfl) (by kernel_rfl) ?_
    refine WL.nil (by kernel_rfl) ?_
    refine Go.weaken (l' := [(3, v22)]) (Fr.sub_cons (by kernel_rfl) (Fr.sub_nil _)) ?_
    refine n13 ?_
    refine W.seqK (by kernel_rfl) (fun K18 n18 e18 r18 p18 => ?_)
    refine W.region (by kernel_rfl) ?_
    refine WL.val (d := (some 23)) (v := v22) (h' := h_16) (by kernel_rfl) (by kernel_rfl) (by kernel_rfl) ?_
    replace hF := outK_some hF; obtain ⟨v24, h_19, e20, hF⟩ := hF
    replace hF := obind_some hF; obtain ⟨t24, c21, hF⟩ := hF
    have c21 := avStr_some c21
    subst c21
    refine WL.val (d := (some 24)) (v := strA t24) (h' := h_19) (by kernel_rfl) (by kernel_rfl) (Eq.trans (by kernel_rfl) e20) ?_
    refine WL.val (d := (some 2)) (v := strA t24) (h' := h_19) (by kernel_rfl) (by kernel_rfl) (by kernel_rfl) ?_
    refine WL.nil (by kernel_rfl) ?_
    refine Go.weaken (l' := [(2, strA t24)]) (Fr.sub_cons (by kernel_rfl) (Fr.sub_nil _)) ?_
    refine n18 ?_
    refine W.ret (by kernel_rfl) ?_
    obtain ⟨hF, hF2⟩ := ret_inj hF; subst hF; subst hF2
    exact leave_of (rs := [.tmp 2]) (vs := [strA t24]) (by kernel_rfl) (res_tmp (by kernel_rfl) res_nil) (by kernel_rfl)
  refine W.blockK (by kernel_rfl) (fun K10 n10 s10 o10 r10 p10 => ?_)
  refine W.loopK (by kernel_rfl) (fun I22 K22 b22 n22 e22 r22 p22 => ?_)
  have L22 : ∀ (m : Nat) (t3_23 : AV) (t4 : Int) (h_24 : AHeap), ref09_Quote_L0 call t0 k11 m t3_23 t4 h_24 = some (rR, hR) → Go w0 m0 (Func.ntmps Try.f17) I22 [(0, strA t0), (3, t3_23), (4, .int .i64 t4)] [] h_24 := by
    intro m
    induction m with
    | zero => intro t3_23 t4 h_24 hF; cases hF
    | succ m ih22 =>
      intro t3_23 t4 h_24 hF
      rw [ref09_Quote_L0_s] at hF; unfold ref09_Quote_L0b at hF
      refine b22 ?_
      refine W.seqK (by kernel_rfl) (fun K25 n25 e25 r25 p25 => ?_)
      refine W.seqK (by kernel_rfl) (fun K26 n26 e26 r26 p26 => ?_)
      refine W.region (by kernel_rfl) ?_
      refine WL.val (d := (some 8)) (v := .int .i64 t4) (h' := h_24) (by kernel_rfl) (by kernel_rfl) (by kernel_rfl) ?_
      refine WL.val (d := (some 9)) (v := strA t0) (h' := h_24) (by kernel_rfl) (by kernel_rfl) (by kernel_rfl) ?_
      refine WL.val (d := (some 10)) (v := .int .i64 (lenS t0)) (h' := h_24) (by kernel_rfl) (by kernel_rfl) (by kernel_rfl) ?_
      replace hF := lett_some hF; obtain ⟨t11, e27, hF⟩ := hF
      refine WL.val (d := (some 11)) (v := .bool t11) (h' := h_24) (by kernel_rfl) (by kernel_rfl) (val_of AV.bool e27 (by kernel_rfl)) ?_
      refine WL.nil (by kernel_rfl) ?_
      refine Go.weaken (l' := [(0, strA t0), (3, t3_23), (4, .int .i64 t4), (11, .bool t11)]) (Fr.sub_cons (by kernel_rfl) (Fr.sub_cons (by kernel_rfl) (Fr.sub_cons (by kernel_rfl) (Fr.sub_cons (by kernel_rfl) (Fr.sub_nil _))))) ?_
      refine n26 ?_
      cases t11 with
      | true =>
        replace hF := ifB_t hF
        refine W.cond_true (by kernel_rfl) (by kernel_rfl) ?_
        refine W.skip (by kernel_rfl) ?_
        refine n25 ?_
        refine W.seqK (by kernel_rfl) (fun K28 n28 e28 r28 p28 => ?_)
        refine W.blockK (by kernel_rfl) (fun K29 n29 s29 o29 r29 p29 => ?_)
        refine W.region (by kernel_rfl) ?_
        refine WL.val (d := (some 14)) (v := t3_23) (h' := h_24) (by kernel_rfl) (by kernel_rfl) (by kernel_rfl) ?_
        refine WL.val (d := (some 15)) (v := strA t0) (h' := h_24) (by kernel_rfl) (by kernel_rfl) (by kernel_rfl) ?_
        refine WL.val (d := (some 16)) (v := .int .i64 t4) (h' := h_24) (by kernel_rfl) (by kernel_rfl) (by kernel_rfl) ?_
        replace hF := obind_some hF; obtain ⟨t17, e30, hF⟩ := hF
        refine WL.val (d := (some 17)) (v := .int .u8 t17) (h' := h_24) (by kernel_rfl) (by kernel_rfl) (Eq.trans (by kernel_rfl) (index_str (P := Try.prog) (h := h_24) (t := 9) (k := .i64) (by kernel_rfl) e30)) ?_
        replace hF := callN_some hF; obtain ⟨r18, h_31, e32, hF⟩ := hF
        replace hF := obind_some hF; obtain ⟨t18, c33, hF⟩ := hF
        have c33 := avStr_some c33
        subst c33
        refine WL.call (hc.ok w0) (d := (some 18)) (by kernel_rfl) (by kernel_rfl) (by kernel_rfl) e32 ?_
        replace hF := outK_some hF; obtain ⟨v19, h_34, e35, hF⟩ := hF
        refine WL.val (d := (some 19)) (v := v19) (h' := h_34) (by kernel_rfl) (by kernel_rfl) (Eq.trans (by kernel_rfl) e35) ?_
        refine WL.val (d := (some 3)) (v := v19) (h' := h_34) (by kernel_rfl) (by kernel_rfl) (by kernel_rfl) ?_
        refine WL.nil (by kernel_rfl) ?_
        refine Go.weaken (l' := [(0, strA t0), (3, v19), (4, .int .i64 t4)]) (Fr.sub_cons (by kernel_rfl) (Fr.sub_cons (by kernel_rfl) (Fr.sub_cons (by kernel_rfl) (Fr.sub_nil _)))) ?_
        refine n29 ?_
        refine n28 ?_
        refine W.region (by kernel_rfl) ?_
        refine WL.val (d := (some 12)) (v := .int .i64 t4) (h' := h_34) (by kernel_rfl) (by kernel_rfl) (by kernel_rfl) ?_
        replace hF := lett_some hF; obtain ⟨t13, e36, hF⟩ := hF
        refine WL.val (d := (some 13)) (v := .int .i64 t13) (h' := h_34) (by kernel_rfl) (by kernel_rfl) (val_of (AV.int .i64) e36 (by kernel_rfl)) ?_
        refine WL.val (d := (some 4)) (v := .int .i64 t13) (h' := h_34) (by kernel_rfl) (by kernel_rfl) (by kernel_rfl) ?_
        refine WL.nil (by kernel_rfl) ?_
        refine Go.weaken (l' := [(0, strA t0), (3, v19), (4, .int .i64 t13)]) (Fr.sub_cons (by kernel_rfl) (Fr.sub_cons (by kernel_rfl) (Fr.sub_cons (by kernel_rfl) (Fr.sub_nil _)))) ?_
        refine n22 ?_
        exact Go.weaken (Fr.sub_cons (by kernel_rfl) (Fr.sub_cons (by kernel_rfl) (Fr.sub_cons (by kernel_rfl) (Fr.sub_nil _)))) (ih22 _ _ _ hF)
      | false =>
        replace hF := ifB_f hF
        refine W.cond_false (by kernel_rfl) (by kernel_rfl) ?_
        refine W.exit (by kernel_rfl) ?_
        refine e25 ?_
        refine e22 ?_
        refine s10 (by kernel_rfl) ?_
        exact Go.weaken (Fr.sub_cons (by kernel_rfl) (Fr.sub_nil _)) (J11 _ _ hF)
  exact Go.weaken (Fr.sub_cons (by kernel_rfl) (Fr.sub_cons (by kernel_rfl) (Fr.sub_cons (by kernel_rfl) (Fr.sub_nil _)))) (L22 _ _ _ _ hF)
noncomputable def ref09_Quote_fn (call : CallF) (n : Nat) : FnT := fun args h => match args with
  | [x0] => obind (avStr x0) fun t0 => ref09_Quote call n t0 h
  | _ => none
set_option maxRecDepth 100000 in
theorem ref09_Quote_fn_eq (call : CallF) (n : Nat) (t0 : Bytes) (h : AHeap) : ref09_Quote_fn call n [strA t0] h = ref09_Quote call n t0 h :=
  (Eq.trans (obind_eq (fun t0 => ref09_Quote call n t0 h) (avStr_str t0)) rfl)
theorem ref09_Quote_holds {call : CallF} (hc : SaysAll Try.prog call) (n : Nat) : Holds Try.prog 17 (ref09_Quote_fn call n) := by
  intro args h r h2 e
  unfold ref09_Quote_fn at e
  split at e
  · replace e := obind_some e; obtain ⟨t0, c0, e⟩ := e; have c0 := avStr_some c0; subst c0
    exact ref09_Quote_ok hc e
  · cases e

noncomputable def ref09_Sign (_ : CallF) (_ : Nat) (t0 : Int) (h : AHeap) : R :=
  lett ((t0 : Int) == 34) fun (t6 : Bool) =>
  ifB t6
  (
    some (.ret (strA ([92, 34] : Bytes)), h))
  (
    lett ((t0 : Int) == 92) fun (t9 : Bool) =>
    ifB t9
    (
      some (.ret (strA ([92, 92] : Bytes)), h))
    (
      lett ((t0 : Int) == 10) fun (t12 : Bool) =>
      ifB t12
      (
        some (.ret (strA ([92, 110] : Bytes)), h))
      (
        lett ((t0 : Int) == 13) fun (t15 : Bool) =>
        ifB t15
        (
          some (.ret (strA ([92, 114] : Bytes)), h))
        (
          lett ((t0 : Int) == 9) fun (t18 : Bool) =>
          ifB t18
          (
            some (.ret (strA ([92, 116] : Bytes)), h))
          (
            lett (decide (t0 ≥ 32)) fun (t21 : Bool) =>
            lett (fun (t25 : Bool) (h_21 : AHeap) =>
              ifB t25
              (
                outK (bldSl Try.prog h_21 50 1 [(0, .int .u8 t0)]) fun v27 h_25 =>
                outK (opConv Try.prog h_25 50 9 (some v27)) fun v28 h_27 =>
                obind (avStr v28) fun t28 =>
                some (.ret (strA t28), h_27))
              (
                obind (quoI .u8 t0 16) fun t31 =>
                obind (quoI .u8 t0 16) fun t33 =>
                lett (IntKind.u8.wrap (t33 + 1)) fun (t34 : Int) =>
                obind (sliceS ([48, 49, 50, 51, 52, 53, 54, 55, 56, 57, 97, 98, 99, 100, 101, 102] : Bytes) t31 t34) fun t35 =>
                obind (addS ([92, 120] : Bytes) t35) fun t36 =>
                obind (remI .u8 t0 16) fun t39 =>
                obind (remI .u8 t0 16) fun t41 =>
                lett (IntKind.u8.wrap (t41 + 1)) fun (t42 : Int) =>
                obind (sliceS ([48, 49, 50, 51, 52, 53, 54, 55, 56, 57, 97, 98, 99, 100, 101, 102] : Bytes) t39 t42) fun t43 =>
                obind (addS t36 t43) fun t44 =>
                some (.ret (strA t44), h_21))) fun j25 =>
            ifB t21
            (
              lett (decide (t0 ≤ 126)) fun (t24 : Bool) =>
              j25 t24 h)
            (
              j25 false h))))))
set_option maxHeartbeats 4000000 in
set_option maxRecDepth 20000 in
theorem ref09_Sign_ok {call : CallF} (hc : SaysAll Try.prog call) {n : Nat} {t0 : Int} {h : AHeap} {rR : ARes} {hR : AHeap} (hF : ref09_Sign call n t0 h = some (rR, hR)) : Says Try.prog 32 [.int .u8 t0] h rR hR := by
  unfold ref09_Sign at hF
  refine says_of (fn := Try.f32) Try.func32 (c := codeOf Try.f32) (by kernel_rfl) (by kernel_rfl) (fun w0 m0 => ?_)
  refine W.weaken (l' := [(0, .int .u8 t0)]) (Fr.sub_cons (by kernel_rfl) (Fr.sub_nil _)) ?_
  refine W.seqK (by kernel_rfl) (fun K1 n1 e1 r1 p1 => ?_)
  refine W.region (by kernel_rfl) ?_
  refine WL.val (d := (some 2)) (v := strA ([] : Bytes)) (h' := h) (by kernel_rfl) (by kernel_rfl) (by kernel_rfl) ?_
  refine WL.nil (by kernel_rfl) ?_
  refine Go.weaken (l' := [(0, .int .u8 t0)]) (Fr.sub_cons (by kernel_rfl) (Fr.sub_nil _)) ?_
  refine n1 ?_
  refine W.seqK (by kernel_rfl) (fun K2 n2 e2 r2 p2 => ?_)
  refine W.blockK (by kernel_rfl) (fun K3 n3 s3 o3 r3 p3 => ?_)
  refine W.seqK (by kernel_rfl) (fun K4 n4 e4 r4 p4 => ?_)
  refine W.region (by kernel_rfl) ?_
  refine WL.val (d := (some 5)) (v := .int .u8 t0) (h' := h) (by kernel_rfl) (by kernel_rfl) (by kernel_rfl) ?_
  replace hF := lett_some hF; obtain ⟨t6, e5, hF⟩ := hF
  refine WL.val (d := (some 6)) (v := .bool t6) (h' := h) (by kernel_rfl) (by kernel_rfl) (val_of AV.bool e5 (by kernel_rfl)) ?_
  refine WL.val (d := (some 4)) (v := .bool t6) (h' := h) (by kernel_rfl) (by kernel_rfl) (by kernel_rfl) ?_
  refine WL.nil (by kernel_rfl) ?_
  refine Go.weaken (l' := [(0, .int .u8 t0), (4, .bool t6)]) (Fr.sub_cons (by kernel_rfl) (Fr.sub_cons (by kernel_rfl) (Fr.sub_nil _))) ?_
  refine n4 ?_
  cases t6 with
  | true =>
    replace hF := ifB_t hF
    refine W.cond_true (by kernel_rfl) (by kernel_rfl) ?_
    refine W.seqK (by kernel_rfl) (fun K6 n6 e6 r6 p6 => ?_)
    refine W.region (by kernel_rfl) ?_
    refine WL.val (d := (some 2)) (v := strA ([92, 34] : Bytes)) (h' := h) (by kernel_rfl) (by kernel_rfl) (by kernel_rfl) ?_
    refine WL.nil (by kernel_rfl) ?_
    refine Go.weaken (l' := [(2, strA ([92, 34] : Bytes))]) (Fr.sub_cons (by kernel_rfl) (Fr.sub_nil _)) ?_
    refine n6 ?_
    refine W.ret (by kernel_rfl) ?_
    refine r3 ?_
    refine r2 ?_
    obtain ⟨hF, hF2⟩ := ret_inj hF; subst hF; subst hF2
    exact leave_of (rs := [.tmp 2]) (vs := [strA ([92, 34] : Bytes)]) (by kernel_rfl) (res_tmp (by kernel_rfl) res_nil) (by kernel_rfl)
  | false =>
    replace hF := ifB_f hF
    refine W.cond_false (by kernel_rfl) (by kernel_rfl) ?_
    refine W.seqK (by kernel_rfl) (fun K7 n7 e7 r7 p7 => ?_)
    refine W.region (by kernel_rfl) ?_
    refine WL.val (d := (some 8)) (v := .int .u8 t0) (h' := h) (by kernel_rfl) (by kernel_rfl) (by kernel_rfl) ?_
    replace hF := lett_some hF; obtain ⟨t9, e8, hF⟩ := hF
    refine WL.val (d := (some 9)) (v := .bool t9) (h' := h) (by kernel_rfl) (by kernel_rfl) (val_of AV.bool e8 (by kernel_rfl)) ?_
    refine WL.val (d := (some 7)) (v := .bool t9) (h' := h) (by kernel_rfl) (by kernel_rfl) (by kernel_rfl) ?_
    refine WL.nil (by kernel_rfl) ?_
    refine Go.weaken (l' := [(0, .int .u8 t0), (7, .bool t9)]) (Fr.sub_cons (by kernel_rfl) (Fr.sub_cons (by kernel_rfl) (Fr.sub_nil _))) ?_
    refine n7 ?_
    cases t9 with
    | true =>
      replace hF := ifB_t hF
      refine W.cond_true (by kernel_rfl) (by kernel_rfl) ?_
      refine W.seqK (by kernel_rfl) (fun K9 n9 e9 r9 p9 => ?_)
      refine W.region (by kernel_rfl) ?_
      refine WL.val (d := (some 2)) (v := strA ([92, 92] : Bytes)) (h' := h) (by kernel_rfl) (by kernel_rfl) (by kernel_rfl) ?_
      refine WL.nil (by kernel_rfl) ?_
      refine Go.weaken (l' := [(2, strA ([92, 92] : Bytes))]) (Fr.sub_cons (by kernel_rfl) (Fr.sub_nil _)) ?_
      refine n9 ?_
      refine W.ret (by kernel_rfl) ?_
      refine r3 ?_
      refine r2 ?_
      obtain ⟨hF, hF2⟩ := ret_inj hF; subst hF; subst hF2
      exact leave_of (rs := [.tmp 2]) (vs := [strA ([92, 92] : Bytes)]) (by kernel_rfl) (res_tmp (by kernel_rfl) res_nil) (by kernel_rfl)
    | false =>
      replace hF := ifB_f hF
      refine W.cond_false (by kernel_rfl) (by kernel_rfl) ?_
      refine W.seqK (by kernel_rfl) (fun K10 n10 e10 r10 p10 => ?_)
      refine W.region (by kernel_rfl) ?_
      refine WL.val (d := (some 11)) (v := .int .u8 t0) (h' := h) (by kernel_rfl) (by kernel_rfl) (by kernel_rfl) ?_
      replace hF := lett_some hF; obtain ⟨t12, e11, hF⟩ := hF
      refine WL.val (d := (some 12)) (v := .bool t12) (h' := h) (by kernel_rfl) (by kernel_rfl) (val_of AV.bool e11 (by kernel_rfl)) ?_
      refine WL.val (d := (some 10)) (v := .bool t12) (h' := h) (by kernel_rfl) (by kernel_rfl) (by kernel_rfl) ?_
      refine WL.nil (by kernel_rfl) ?_
      refine Go.weaken (l' := [(0, .int .u8 t0), (10, .bool t12)]) (Fr.sub_cons (by kernel_rfl) (Fr.sub_cons (by kernel_rfl) (Fr.sub_nil _))) ?_
      refine n10 ?_
      cases t12 with
      | true =>
        replace hF := ifB_t hF
        refine W.cond_true (by kernel_rfl) (by kernel_rfl) ?_
        refine W.seqK (by kernel_rfl) (fun K12 n12 e12 r12 p12 => ?_)
        refine W.region (by kernel_rfl) ?_
        refine WL.val (d := (some 2)) (v := strA ([92, 110] : Bytes)) (h' := h) (by kernel_rfl) (by kernel_rfl) (by kernel_rfl) ?_
        refine WL.nil (by kernel_rfl) ?_
        refine Go.weaken (l' := [(2, strA ([92, 110] : Bytes))]) (Fr.sub_cons (by kernel_rfl) (Fr.sub_nil _)) ?_
        refine n12 ?_
        refine W.ret (by kernel_rfl) ?_
        refine r3 ?_
        refine r2 ?_
        obtain ⟨hF, hF2⟩ := ret_inj hF; subst hF; subst hF2
        exact leave_of (rs := [.tmp 2]) (vs := [strA ([92, 110] : Bytes)]) (by kernel_rfl) (res_tmp (by kernel_rfl) res_nil) (by kernel_rfl)
      | false =>
        replace hF := ifB_f hF
        refine W.cond_false (by kernel_rfl) (by kernel_rfl) ?_
        refine W.seqK (by kernel_rfl) (fun K13 n13 e13 r13 p13 => ?_)
        refine W.region (by kernel_rfl) ?_
        refine WL.val (d := (some 14)) (v := .int .u8 t0) (h' := h) (by kernel_rfl) (by kernel_rfl) (by kernel_rfl) ?_
        replace hF := lett_some hF; obtain ⟨t15, e14, hF⟩ := hF
        refine WL.val (d := (some 15)) (v := .bool t15) (h' := h) (by kernel_rfl) (by kernel_rfl) (val_of AV.bool e14 (by kernel_rfl)) ?_
        refine WL.val (d := (some 13)) (v := .bool t15) (h' := h) (by kernel_rfl) (by kernel_rfl) (by kernel_rfl) ?_
        refine WL.nil (by kernel_rfl) ?_
        refine Go.weaken (l' := [(0, .int .u8 t0), (13, .bool t15)]) (Fr.sub_cons (by kernel_rfl) (Fr.sub_cons (by kernel_rfl) (Fr.sub_nil _))) ?_
        refine n13 ?_
        cases t15 with
        | true =>
          replace hF := ifB_t hF
          refine W.cond_true (by kernel_rfl) (by kernel_rfl) ?_
          refine W.seqK (by kernel_rfl) (fun K15 n15 e15 r15 p15 => ?_)
          refine W.region (by kernel_rfl) ?_
          refine WL.val (d := (some 2)) (v := strA ([92, 114] : Bytes)) (h' := h) (by kernel_rfl) (by kernel_rfl) (by kernel_rfl) ?_
          refine WL.nil (by kernel_rfl) ?_
          refine Go.weaken (l' := [(2, strA ([92, 114] : Bytes))]) (Fr.sub_cons (by kernel_rfl) (Fr.sub_nil _)) ?_
          refine n15 ?_
          refine W.ret (by kernel_rfl) ?_
          refine r3 ?_
          refine r2 ?_
          obtain ⟨hF, hF2⟩ := ret_inj hF; subst hF; subst hF2
          exact leave_of (rs := [.tmp 2]) (vs := [strA ([92, 114] : Bytes)]) (by kernel_rfl) (res_tmp (by kernel_rfl) res_nil) (by kernel_rfl)
        | false =>
          replace hF := ifB_f hF
          refine W.cond_false (by kernel_rfl) (by kernel_rfl) ?_
          refine W.seqK (by kernel_rfl) (fun K16 n16 e16 r16 p16 => ?_)
          refine W.region (by kernel_rfl) ?_
          refine WL.val (d := (some 17)) (v := .int .u8 t0) (h' := h) (by kernel_rfl) (by kernel_rfl) (by kernel_rfl) ?_
          replace hF := lett_some hF; obtain ⟨t18, e17, hF⟩ := hF
          refine WL.val (d := (some 18)) (v := .bool t18) (h' := h) (by kernel_rfl) (by kernel_rfl) (val_of AV.bool e17 (by kernel_rfl)) ?_
          refine WL.val (d := (some 16)) (v := .bool t18) (h' := h) (by kernel_rfl) (by kernel_rfl) (by kernel_rfl) ?_
          refine WL.nil (by kernel_rfl) ?_
          refine Go.weaken (l' := [(0, .int .u8 t0), (16, .bool t18)]) (Fr.sub_cons (by kernel_rfl) (Fr.sub_cons (by kernel_rfl) (Fr.sub_nil _))) ?_
          refine n16 ?_
          cases t18 with
          | true =>
            replace hF := ifB_t hF
            refine W.cond_true (by kernel_rfl) (by kernel_rfl) ?_
            refine W.seqK (by kernel_rfl) (fun K18 n18 e18 r18 p18 => ?_)
            refine W.region (by kernel_rfl) ?_
            refine WL.val (d := (some 2)) (v := strA ([92, 116] : Bytes)) (h' := h) (by kernel_rfl) (by kernel_rfl) (by kernel_rfl) ?_
            refine WL.nil (by kernel_rfl) ?_
            refine Go.weaken (l' := [(2, strA ([92, 116] : Bytes))]) (Fr.sub_cons (by kernel_rfl) (Fr.sub_nil _)) ?_
            refine n18 ?_
            refine W.ret (by kernel_rfl) ?_
            refine r3 ?_
            refine r2 ?_
            obtain ⟨hF, hF2⟩ := ret_inj hF; subst hF; subst hF2
            exact leave_of (rs := [.tmp 2]) (vs := [strA ([92, 116] : Bytes)]) (by kernel_rfl) (res_tmp (by kernel_rfl) res_nil) (by kernel_rfl)
          | false =>
            replace hF := ifB_f hF
            refine W.cond_false (by kernel_rfl) (by kernel_rfl) ?_
            refine W.seqK (by kernel_rfl) (fun K19 n19 e19 r19 p19 => ?_)
            refine W.region (by kernel_rfl) ?_
            refine WL.val (d := (some 20)) (v := .int .u8 t0) (h' := h) (by kernel_rfl) (by kernel_rfl) (by kernel_rfl) ?_
            replace hF := lett_some hF; obtain ⟨t21, e20, hF⟩ := hF
            refine WL.val (d := (some 21)) (v := .bool t21) (h' := h) (by kernel_rfl) (by kernel_rfl) (val_of AV.bool e20 (by kernel_rfl)) ?_
            refine WL.val (d := (some 22)) (v := .bool t21) (h' := h) (by kernel_rfl) (by kernel_rfl) (by kernel_rfl) ?_
            replace hF := lett_some hF; obtain ⟨j25, e22, hF⟩ := hF
            have J23 : ∀ (t25 : Bool) (h_21 : AHeap), j25 t25 h_21 = some (rR, hR) → WL Try.prog w0 m0 (Func.ntmps Try.f32) (Code.ops (Code.p1 (Code.p2 (Code.p2 (Code.p2 (Code.p2 (Code.p2 (Code.p2 (Code.p2 (Code.p2 (Code.p2 (Code.p2 (Code.p1 (Code.p1 (Code.p2 (codeOf Try.f32)))))))))))))))) 6 K19 [(0, .int .u8 t0), (25, .bool t25)] [] h_21 := by
              intro t25 h_21 hF
              rw [e22] at hF
              refine WL.val (d := (some 19)) (v := .bool t25) (h' := h_21) (by kernel_rfl) (by kernel_rfl) (by kernel_rfl) ?_
              refine WL.nil (by kernel_rfl) ?_
              refine Go.weaken (l' := [(0, .int .u8 t0), (19, .bool t25)]) (Fr.sub_cons (by kernel_rfl) (Fr.sub_cons (by kernel_rfl) (Fr.sub_nil _))) ?_
              refine n19 ?_
              cases t25 with
              | true =>
                replace hF := ifB_t hF
                refine W.cond_true (by kernel_rfl) (by kernel_rfl) ?_
                refine W.seqK (by kernel_rfl) (fun K24 n24 e24 r24 p24 => ?_)
                refine W.region (by kernel_rfl) ?_
                refine WL.val (d := (some 26)) (v := .int .u8 t0) (h' := h_21) (by kernel_rfl) (by kernel_rfl) (by kernel_rfl) ?_
                replace hF := outK_some hF; obtain ⟨v27, h_25, e26, hF⟩ := hF
                refine WL.val (d := (some 27)) (v := v27) (h' := h_25) (by kernel_rfl) (by kernel_rfl) (Eq.trans (by kernel_rfl) e26) ?_
                replace hF := outK_some hF; obtain ⟨v28, h_27, e28, hF⟩ := hF
                replace hF := obind_some hF; obtain ⟨t28, c29, hF⟩ := hF
                have c29 := avStr_some c29
                subst c29
                refine WL.val (d := (some 28)) (v := strA t28) (h' := h_27) (by kernel_rfl) (by kernel_rfl) (Eq.trans (by kernel_rfl) e28) ?_
                refine WL.val (d := (some 2)) (v := strA t28) (h' := h_27) (by kernel_rfl) (by kernel_rfl) (by kernel_rfl) ?_
                refine WL.nil (by kernel_rfl) ?_
                refine Go.weaken (l' := [(2, strA t28)]) (Fr.sub_cons (by kernel_rfl) (Fr.sub_nil _)) ?_
                refine n24 ?_
                refine W.ret (by kernel_rfl) ?_
                refine r3 ?_
                refine r2 ?_
                obtain ⟨hF, hF2⟩ := ret_inj hF; subst hF; subst hF2
                exact leave_of (rs := [.tmp 2]) (vs := [strA t28]) (by kernel_rfl) (res_tmp (by kernel_rfl) res_nil) (by kernel_rfl)
              | false =>
                replace hF := ifB_f hF
                refine W.cond_false (by kernel_rfl) (by kernel_rfl) ?_
                refine W.skip (by kernel_rfl) ?_
                refine n3 ?_
                refine n2 ?_
                refine W.seqK (by kernel_rfl) (fun K30 n30 e30 r30 p30 => ?_)
                refine W.region (by kernel_rfl) ?_
                refine WL.val (d := (some 3)) (v := strA ([48, 49, 50, 51, 52, 53, 54, 55, 56, 57, 97, 98, 99, 100, 101, 102] : Bytes)) (h' := h_21) (by kernel_rfl) (by kernel_rfl) (by kernel_rfl) ?_
                refine WL.nil (by kernel_rfl) ?_
                refine Go.weaken (l' := [(0, .int .u8 t0), (3, strA ([48, 49, 50, 51, 52, 53, 54, 55, 56, 57, 97, 98, 99, 100, 101, 102] : Bytes))]) (Fr.sub_cons (by kernel_rfl) (Fr.sub_cons (by kernel_rfl) (Fr.sub_nil _))) ?_
                refine n30 ?_
                refine W.seqK (by kernel_rfl) (fun K31 n31 e31 r31 p31 => ?_)
                refine W.draw (by kernel_rfl) (hc.ok w0) (plan := [0, 1, 2, 3, 4, 5, 6, 7, 8, 9, 10, 11, 12, 13, 14, 15, 16]) (by kernel_rfl) (by kernel_rfl) (by kernel_rfl) ?_
                refine WD.val (d := (some 29)) (v := strA ([48, 49, 50, 51, 52, 53, 54, 55, 56, 57, 97, 98, 99, 100, 101, 102] : Bytes)) (h' := h_21) (by kernel_rfl) (by kernel_rfl) (by kernel_rfl) (k := 0) (by kernel_rfl) (fun e => absurd e (by decide)) (by decide) ?_
                refine WD.val (d := (some 30)) (v := .int .u8 t0) (h' := h_21) (by kernel_rfl) (by kernel_rfl) (by kernel_rfl) (k := 0) (by kernel_rfl) (fun e => absurd e (by decide)) (by decide) ?_
                replace hF := obind_some hF; obtain ⟨t31, e32, hF⟩ := hF
                refine WD.val (d := (some 31)) (v := .int .u8 t31) (h' := h_21) (by kernel_rfl) (by kernel_rfl) (Eq.trans (by kernel_rfl) (quo_int (P := Try.prog) (h := h_21) (t := 5) (lit := true) e32)) (k := 0) (by kernel_rfl) (fun e => absurd e (by decide)) (by decide) ?_
                refine WD.val (d := (some 32)) (v := .int .u8 t0) (h' := h_21) (by kernel_rfl) (by kernel_rfl) (by kernel_rfl) (k := 0) (by kernel_rfl) (fun e => absurd e (by decide)) (by decide) ?_
                replace hF := obind_some hF; obtain ⟨t33, e33, hF⟩ := hF
                refine WD.val (d := (some 33)) (v := .int .u8 t33) (h' := h_21) (by kernel_rfl) (by kernel_rfl) (Eq.trans (by kernel_rfl) (quo_int (P := Try.prog) (h := h_21) (t := 5) (lit := true) e33)) (k := 0) (by kernel_rfl) (fun e => absurd e (by decide)) (by decide) ?_
                replace hF := lett_some hF; obtain ⟨t34, e34, hF⟩ := hF
                refine WD.val (d := (some 34)) (v := .int .u8 t34) (h' := h_21) (by kernel_rfl) (by kernel_rfl) (val_of (AV.int .u8) e34 (by kernel_rfl)) (k := 0) (by kernel_rfl) (fun e => absurd e (by decide)) (by decide) ?_
                replace hF := obind_some hF; obtain ⟨t35, e35, hF⟩ := hF
                refine WD.val (d := (some 35)) (v := strA t35) (h' := h_21) (by kernel_rfl) (by kernel_rfl) (Eq.trans (by kernel_rfl) (slice_str (P := Try.prog) (h := h_21) (t := 9) (A := (some (.int .u8 t31))) (B := (some (.int .u8 t34))) (by kernel_rfl) (.inl ⟨_, rfl⟩) (.inl ⟨_, rfl⟩) e35)) (k := 0) (by kernel_rfl) (fun e => absurd e (by decide)) (by decide) ?_
                replace hF := obind_some hF; obtain ⟨t36, e36, hF⟩ := hF
                refine WD.val (d := (some 36)) (v := strA t36) (h' := h_21) (by kernel_rfl) (by kernel_rfl) (Eq.trans (by kernel_rfl) (add_str (P := Try.prog) (h := h_21) (t := 9) (lit := true) e36)) (k := 0) (by kernel_rfl) (fun e => absurd e (by decide)) (by decide) ?_
                refine WD.val (d := (some 37)) (v := strA ([48, 49, 50, 51, 52, 53, 54, 55, 56, 57, 97, 98, 99, 100, 101, 102] : Bytes)) (h' := h_21) (by kernel_rfl) (by kernel_rfl) (by kernel_rfl) (k := 0) (by kernel_rfl) (fun e => absurd e (by decide)) (by decide) ?_
                refine WD.val (d := (some 38)) (v := .int .u8 t0) (h' := h_21) (by kernel_rfl) (by kernel_rfl) (by kernel_rfl) (k := 0) (by kernel_rfl) (fun e => absurd e (by decide)) (by decide) ?_
                replace hF := obind_some hF; obtain ⟨t39, e37, hF⟩ := hF
                refine WD.val (d := (some 39)) (v := .int .u8 t39) (h' := h_21) (by kernel_rfl) (by kernel_rfl) (Eq.trans (by kernel_rfl) (rem_int (P := Try.prog) (h := h_21) (t := 5) (lit := true) e37)) (k := 0) (by kernel_rfl) (fun e => absurd e (by decide)) (by decide) ?_
                refine WD.val (d := (some 40)) (v := .int .u8 t0) (h' := h_21) (by kernel_rfl) (by kernel_rfl) (by kernel_rfl) (k := 0) (by kernel_rfl) (fun e => absurd e (by decide)) (by decide) ?_
                replace hF := obind_some hF; obtain ⟨t41, e38, hF⟩ := hF
                refine WD.val (d := (some 41)) (v := .int .u8 t41) (h' := h_21) (by kernel_rfl) (by kernel_rfl) (Eq.trans (by kernel_rfl) (rem_int (P := Try.prog) (h := h_21) (t := 5) (lit := true) e38)) (k := 0) (by kernel_rfl) (fun e => absurd e (by decide)) (by decide) ?_
                replace hF := lett_some hF; obtain ⟨t42, e39, hF⟩ := hF
                refine WD.val (d := (some 42)) (v := .int .u8 t42) (h' := h_21) (by kernel_rfl) (by kernel_rfl) (val_of (AV.int .u8) e39 (by kernel_rfl)) (k := 0) (by kernel_rfl) (fun e => absurd e (by decide)) (by decide) ?_
                replace hF := obind_some hF; obtain ⟨t43, e40, hF⟩ := hF
                refine WD.val (d := (some 43)) (v := strA t43) (h' := h_21) (by kernel_rfl) (by kernel_rfl) (Eq.trans (by kernel_rfl) (slice_str (P := Try.prog) (h := h_21) (t := 9) (A := (some (.int .u8 t39))) (B := (some (.int .u8 t42))) (by kernel_rfl) (.inl ⟨_, rfl⟩) (.inl ⟨_, rfl⟩) e40)) (k := 0) (by kernel_rfl) (fun e => absurd e (by decide)) (by decide) ?_
                replace hF := obind_some hF; obtain ⟨t44, e41, hF⟩ := hF
                refine WD.val (d := (some 44)) (v := strA t44) (h' := h_21) (by kernel_rfl) (by kernel_rfl) (Eq.trans (by kernel_rfl) (add_str (P := Try.prog) (h := h_21) (t := 9) (lit := false) e41)) (k := 0) (by kernel_rfl) (fun e => absurd e (by decide)) (by decide) ?_
                refine WD.val (d := (some 2)) (v := strA t44) (h' := h_21) (by kernel_rfl) (by kernel_rfl) (by kernel_rfl) (k := 0) (by kernel_rfl) (fun e => absurd e (by decide)) (by decide) ?_
                refine WD.nil ?_
                refine Go.weaken (l' := [(2, strA t44)]) (Fr.sub_cons (by kernel_rfl) (Fr.sub_nil _)) ?_
                refine n31 ?_
                refine W.ret (by kernel_rfl) ?_
                obtain ⟨hF, hF2⟩ := ret_inj hF; subst hF; subst hF2
                exact leave_of (rs := [.tmp 2]) (vs := [strA t44]) (by kernel_rfl) (res_tmp (by kernel_rfl) res_nil) (by kernel_rfl)
            cases t21 with
            | true =>
              replace hF := ifB_t hF
              refine WL.val (d := (some 23)) (v := .int .u8 t0) (h' := h) (by kernel_rfl) (by kernel_rfl) (by kernel_rfl) ?_
              replace hF := lett_some hF; obtain ⟨t24, e42, hF⟩ := hF
              refine WL.val (d := (some 24)) (v := .bool t24) (h' := h) (by kernel_rfl) (by kernel_rfl) (val_of AV.bool e42 (by kernel_rfl)) ?_
              refine WL.val (d := (some 25)) (v := .bool t24) (h' := h) (by kernel_rfl) (by kernel_rfl) (by kernel_rfl) ?_
              exact WL.weaken (Fr.sub_cons (by kernel_rfl) (Fr.sub_cons (by kernel_rfl) (Fr.sub_nil _))) (J23 _ _ hF)
            | false =>
              replace hF := ifB_f hF
              refine WL.not (d := (some 23)) (by kernel_rfl) (by kernel_rfl) ?_
              refine WL.not (d := (some 24)) (by kernel_rfl) (by kernel_rfl) ?_
              refine WL.val (d := (some 25)) (v := .bool false) (h' := h) (by kernel_rfl) (by kernel_rfl) (by kernel_rfl) ?_
              exact WL.weaken (Fr.sub_cons (by kernel_rfl) (Fr.sub_cons (by kernel_rfl) (Fr.sub_nil _))) (J23 _ _ hF)
noncomputable def ref09_Sign_fn (call : CallF) (n : Nat) : FnT := fun args h => match args with
  | [x0] => obind (avInt .u8 x0) fun t0 => ref09_Sign call n t0 h
  | _ => none
set_option maxRecDepth 100000 in
theorem ref09_Sign_fn_eq (call : CallF) (n : Nat) (t0 : Int) (h : AHeap) : ref09_Sign_fn call n [.int .u8 t0] h = ref09_Sign call n t0 h :=
  (Eq.trans (obind_eq (fun t0 => ref09_Sign call n t0 h) (avInt_int .u8 t0)) rfl)
theorem ref09_Sign_holds {call : CallF} (hc : SaysAll Try.prog call) (n : Nat) : Holds Try.prog 32 (ref09_Sign_fn call n) := by
  intro args h r h2 e
  unfold ref09_Sign_fn at e
  split at e
  · replace e := obind_some e; obtain ⟨t0, c0, e⟩ := e; have c0 := avInt_some c0; subst c0
    exact ref09_Sign_ok hc e
  · cases e

end Go.Proofs.Ytijhmmimffgjiaa
