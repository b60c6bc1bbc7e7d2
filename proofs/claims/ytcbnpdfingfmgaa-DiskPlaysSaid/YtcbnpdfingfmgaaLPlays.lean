/- Plain functions in place of the program's, and that their calls come to what they say. -/
import Derived.Test.YtcbnpdfingfmgaaFrame
import Derived.Test.YtcbnpdfingfmgaaAbs50
namespace Go.Proofs.Ytcbnpdfingfmgaa
open Go.RowKit Abs

noncomputable def law04_DiskPlays_L0b (call : CallF) (t0 : AV) (t16 : Int) (k24 : AHeap → R) (self : AV → AV → Int → AHeap → R) (t3 : AV) (t4 : AV) (t17 : Int) (h_28 : AHeap) : R :=
  lett (decide (t17 < t16)) fun (t18 : Bool) =>
  ifB t18
  (
    obind (idxP 5 t0 t17) fun t19 =>
    obind (ldRow h_28 5 t19) fun t20 =>
    lett (newH h_28 43 [.int .i64 0, .int .i64 0, .int .i64 0, .str 0 0, .nsl]) fun h_37 =>
    obind (stRow h_37 5 t20 (newP h_28)) fun h_39 =>
    obind (ldCell h_39 (AV.ptr (AHeap.next h_28) 0)) fun v22 =>
    obind (avInt .i64 v22) fun t22 =>
    lett ((t22 : Int) == 6) fun (t23 : Bool) =>
    lett (fun (t3_47 : AV) (t4_48 : AV) (h_49 : AHeap) =>
      callN (call 26 [t3_47, t4_48] h_49) fun r44 h_51 =>
      obind (avBool r44) fun t44 =>
      lett (!t44) fun (t45 : Bool) =>
      ifB t45
      (
        some (.ret (.bool false), h_51))
      (
        lett (IntKind.i64.wrap (t17 + 1)) fun (t46 : Int) =>
        self t3_47 t4_48 t46 h_51)) fun k46 =>
    ifB t23
    (
      callN (call 21 [t3] h_39) fun r25 h_58 =>
      callN (call 24 [t4] h_58) fun r27 h_60 =>
      outK (opBin Try.prog h_60 .eql 23 true (some r25) (some AV.nilp)) fun v29 h_64 =>
      obind (avBool v29) fun t29 =>
      ifB t29
      (
        some (.ret (.bool false), h_64))
      (
        callN (call 9 [t3, .int .i64 0, strA ([115, 112, 111, 105, 108, 116] : Bytes)] h_64) fun r31 h_69 =>
        obind (avInt .i64 r31) fun _ =>
        outK (bldSl Try.prog h_69 34 1 [(0, .int .i64 9)]) fun v33 h_73 =>
        callN (call 14 [t3, v33, .int .i64 1] h_73) fun r34 h_75 =>
        obind (avInt .i64 r34) fun _ =>
        k46 r25 r27 h_75))
    (
      obind (ldRow h_39 5 (newP h_28)) fun t39 =>
      callN (call 25 [t3, t4, .agg t39] h_39) fun r40 h_80 =>
      obind (avBool r40) fun t40 =>
      lett (!t40) fun (t41 : Bool) =>
      ifB t41
      (
        some (.ret (.bool false), h_80))
      (
        k46 t3 t4 h_80)))
  (
    k24 h_28)
noncomputable def law04_DiskPlays_L0 (call : CallF) (t0 : AV) (t16 : Int) (k24 : AHeap → R) : Nat → AV → AV → Int → AHeap → R := iterR (fun _ _ _ _ => none) (law04_DiskPlays_L0b call t0 t16 k24)
theorem law04_DiskPlays_L0_s (call : CallF) (t0 : AV) (t16 : Int) (k24 : AHeap → R) (m : Nat) : law04_DiskPlays_L0 call t0 t16 k24 (m + 1) = law04_DiskPlays_L0b call t0 t16 k24 (law04_DiskPlays_L0 call t0 t16 k24 m) := rfl
noncomputable def law04_DiskPlays (call : CallF) (n : Nat) (t0 : AV) (h : AHeap) : R :=
  callN (call 7 [] h) fun r9 h_4 =>
  obind (avBool r9) fun t9 =>
  lett (!t9) fun (t10 : Bool) =>
  ifB t10
  (
    some (.ret (.bool false), h_4))
  (
    callN (call 22 [t0] h_4) fun r12 h_11 =>
    obind (avBool r12) fun t12 =>
    ifB t12
    (
      some (.ret (.bool true), h_11))
    (
      callN (call 8 [] h_11) fun r13 h_16 =>
      callN (call 23 [] h_16) fun r14 h_18 =>
      obind (lenL t0) fun t16 =>
      lett (fun  (h_25 : AHeap) =>
        some (.ret (.bool true), h_25)) fun k24 =>
      law04_DiskPlays_L0 call t0 t16 k24 n r13 r14 0 h_18))
set_option maxHeartbeats 4000000 in
set_option maxRecDepth 20000 in
theorem law04_DiskPlays_ok {call : CallF} (hc : SaysAll Try.prog call) {n : Nat} {t0 : AV} {h : AHeap} {rR : ARes} {hR : AHeap} (hF : law04_DiskPlays call n t0 h = some (rR, hR)) : Says Try.prog 4 [t0] h rR hR := by
  unfold law04_DiskPlays at hF
  refine says_of (fn := Try.f4) Try.func4 (c := codeOf Try.f4) (by kernel_rfl) (by kernel_rfl) (fun w0 m0 => ?_)
  refine W.weaken (l' := [(0, t0)]) (Fr.sub_cons (by kernel_rfl) (Fr.sub_nil _)) ?_
  refine W.seqK (by kernel_rfl) (fun K1 n1 e1 q1 p1 => ?_)
  refine W.region (by kernel_rfl) ?_
  refine WL.val (d := (some 2)) (v := .bool false) (h' := h) (by kernel_rfl) (by kernel_rfl) (by kernel_rfl) ?_
  refine WL.nil (by kernel_rfl) ?_
  refine Go.weaken (l' := [(0, t0)]) (Fr.sub_cons (by kernel_rfl) (Fr.sub_nil _)) ?_
  refine n1 ?_
  refine W.seqK (by kernel_rfl) (fun K2 n2 e2 q2 p2 => ?_)
  refine W.seqK (by kernel_rfl) (fun K3 n3 e3 q3 p3 => ?_)
  refine W.region (by kernel_rfl) ?_
  replace hF := callN_some hF; obtain ⟨r9, h_4, e5, hF⟩ := hF
  replace hF := obind_some hF; obtain ⟨t9, c6, hF⟩ := hF
  have c6 := avBool_some c6
  subst c6
  refine WL.call (hc.ok w0) (d := (some 9)) (by kernel_rfl) (by kernel_rfl) (by kernel_rfl) e5 ?_
  replace hF := lett_some hF; obtain ⟨t10, e7, hF⟩ := hF
  refine WL.val (d := (some 10)) (v := .bool t10) (h' := h_4) (by kernel_rfl) (by kernel_rfl) (val_of AV.bool e7 (by kernel_rfl)) ?_
  refine WL.nil (by kernel_rfl) ?_
  refine Go.weaken (l' := [(0, t0), (10, .bool t10)]) (Fr.sub_cons (by kernel_rfl) (Fr.sub_cons (by kernel_rfl) (Fr.sub_nil _))) ?_
  refine n3 ?_
  cases t10 with
  | true =>
    replace hF := ifB_t hF
    refine W.cond_true (by kernel_rfl) (by kernel_rfl) ?_
    refine W.seqK (by kernel_rfl) (fun K8 n8 e8 q8 p8 => ?_)
    refine W.region (by kernel_rfl) ?_
    refine WL.val (d := (some 2)) (v := .bool false) (h' := h_4) (by kernel_rfl) (by kernel_rfl) (by kernel_rfl) ?_
    refine WL.nil (by kernel_rfl) ?_
    refine Go.weaken (l' := [(2, .bool false)]) (Fr.sub_cons (by kernel_rfl) (Fr.sub_nil _)) ?_
    refine n8 ?_
    refine W.ret (by kernel_rfl) ?_
    refine q2 ?_
    obtain ⟨hF, hF2⟩ := ret_inj hF; subst hF; subst hF2
    exact leave_of (rs := [.tmp 2]) (vs := [.bool false]) (by kernel_rfl) (res_tmp (by kernel_rfl) res_nil) (by kernel_rfl)
  | false =>
    replace hF := ifB_f hF
    refine W.cond_false (by kernel_rfl) (by kernel_rfl) ?_
    refine W.skip (by kernel_rfl) ?_
    refine n2 ?_
    refine W.seqK (by kernel_rfl) (fun K9 n9 e9 q9 p9 => ?_)
    refine W.seqK (by kernel_rfl) (fun K10 n10 e10 q10 p10 => ?_)
    refine W.region (by kernel_rfl) ?_
    refine WL.val (d := (some 11)) (v := t0) (h' := h_4) (by kernel_rfl) (by kernel_rfl) (by kernel_rfl) ?_
    replace hF := callN_some hF; obtain ⟨r12, h_11, e12, hF⟩ := hF
    replace hF := obind_some hF; obtain ⟨t12, c13, hF⟩ := hF
    have c13 := avBool_some c13
    subst c13
    refine WL.call (hc.ok w0) (d := (some 12)) (by kernel_rfl) (by kernel_rfl) (by kernel_rfl) e12 ?_
    refine WL.nil (by kernel_rfl) ?_
    refine Go.weaken (l' := [(0, t0), (12, .bool t12)]) (Fr.sub_cons (by kernel_rfl) (Fr.sub_cons (by kernel_rfl) (Fr.sub_nil _))) ?_
    refine n10 ?_
    cases t12 with
    | true =>
      replace hF := ifB_t hF
      refine W.cond_true (by kernel_rfl) (by kernel_rfl) ?_
      refine W.seqK (by kernel_rfl) (fun K14 n14 e14 q14 p14 => ?_)
      refine W.region (by kernel_rfl) ?_
      refine WL.val (d := (some 2)) (v := .bool true) (h' := h_11) (by kernel_rfl) (by kernel_rfl) (by kernel_rfl) ?_
      refine WL.nil (by kernel_rfl) ?_
      refine Go.weaken (l' := [(2, .bool true)]) (Fr.sub_cons (by kernel_rfl) (Fr.sub_nil _)) ?_
      refine n14 ?_
      refine W.ret (by kernel_rfl) ?_
      refine q9 ?_
      obtain ⟨hF, hF2⟩ := ret_inj hF; subst hF; subst hF2
      exact leave_of (rs := [.tmp 2]) (vs := [.bool true]) (by kernel_rfl) (res_tmp (by kernel_rfl) res_nil) (by kernel_rfl)
    | false =>
      replace hF := ifB_f hF
      refine W.cond_false (by kernel_rfl) (by kernel_rfl) ?_
      refine W.skip (by kernel_rfl) ?_
      refine n9 ?_
      refine W.seqK (by kernel_rfl) (fun K15 n15 e15 q15 p15 => ?_)
      refine W.region (by kernel_rfl) ?_
      replace hF := callN_some hF; obtain ⟨r13, h_16, e17, hF⟩ := hF
      refine WL.call (hc.ok w0) (d := (some 13)) (by kernel_rfl) (by kernel_rfl) (by kernel_rfl) e17 ?_
      replace hF := callN_some hF; obtain ⟨r14, h_18, e19, hF⟩ := hF
      refine WL.call (hc.ok w0) (d := (some 14)) (by kernel_rfl) (by kernel_rfl) (by kernel_rfl) e19 ?_
      refine WL.val (d := (some 3)) (v := r13) (h' := h_18) (by kernel_rfl) (by kernel_rfl) (by kernel_rfl) ?_
      refine WL.val (d := (some 4)) (v := r14) (h' := h_18) (by kernel_rfl) (by kernel_rfl) (by kernel_rfl) ?_
      refine WL.nil (by kernel_rfl) ?_
      refine Go.weaken (l' := [(0, t0), (3, r13), (4, r14)]) (Fr.sub_cons (by kernel_rfl) (Fr.sub_cons (by kernel_rfl) (Fr.sub_cons (by kernel_rfl) (Fr.sub_nil _)))) ?_
      refine n15 ?_
      refine W.seqK (by kernel_rfl) (fun K20 n20 e20 q20 p20 => ?_)
      refine W.seqK (by kernel_rfl) (fun K21 n21 e21 q21 p21 => ?_)
      refine W.region (by kernel_rfl) ?_
      refine WL.val (d := (some 15)) (v := t0) (h' := h_18) (by kernel_rfl) (by kernel_rfl) (by kernel_rfl) ?_
      replace hF := obind_some hF; obtain ⟨t16, e22, hF⟩ := hF
      refine WL.val (d := (some 16)) (v := .int .i64 t16) (h' := h_18) (by kernel_rfl) (by kernel_rfl) (Eq.trans (by kernel_rfl) (len_row (P := Try.prog) (h := h_18) (t := 38) (e' := 43) (by kernel_rfl) e22)) ?_
      refine WL.val (d := (some 17)) (v := .int .i64 0) (h' := h_18) (by kernel_rfl) (by kernel_rfl) (by kernel_rfl) ?_
      refine WL.nil (by kernel_rfl) ?_
      refine Go.weaken (l' := [(3, r13), (4, r14), (15, t0), (16, .int .i64 t16), (17, .int .i64 0)]) (Fr.sub_cons (by kernel_rfl) (Fr.sub_cons (by kernel_rfl) (Fr.sub_cons (by kernel_rfl) (Fr.sub_cons (by kernel_rfl) (Fr.sub_cons (by kernel_rfl) (Fr.sub_nil _)))))) ?_
      refine n21 ?_
      replace hF := lett_some hF; obtain ⟨k24, e24, hF⟩ := hF
      have J24 : ∀  (h_25 : AHeap), k24 h_25 = some (rR, hR) → Go w0 m0 (Func.ntmps Try.f4) (K20 .normal) [] [] h_25 := by
        intro  h_25 hF
        rw [e24] at hF
        refine n20 ?_
        refine W.seqK (by kernel_rfl) (fun K26 n26 e26 q26 p26 => ?_)
        refine W.region (by kernel_rfl) ?_
        refine WL.val (d := (some 2)) (v := .bool true) (h' := h_25) (by kernel_rfl) (by kernel_rfl) (by kernel_rfl) ?_
        refine WL.nil (by kernel_rfl) ?_
        refine Go.weaken (l' := [(2, .bool true)]) (Fr.sub_cons (by kernel_rfl) (Fr.sub_nil _)) ?_
        refine n26 ?_
        refine W.ret (by kernel_rfl) ?_
        obtain ⟨hF, hF2⟩ := ret_inj hF; subst hF; subst hF2
        exact leave_of (rs := [.tmp 2]) (vs := [.bool true]) (by kernel_rfl) (res_tmp (by kernel_rfl) res_nil) (by kernel_rfl)
      refine W.blockK (by kernel_rfl) (fun K23 n23 s23 o23 q23 p23 => ?_)
      refine W.loopK (by kernel_rfl) (fun I27 K27 b27 n27 e27 q27 p27 => ?_)
      have L27 : ∀ (m : Nat) (t3 : AV) (t4 : AV) (t17 : Int) (h_28 : AHeap), law04_DiskPlays_L0 call t0 t16 k24 m t3 t4 t17 h_28 = some (rR, hR) → Go w0 m0 (Func.ntmps Try.f4) I27 [(3, t3), (4, t4), (15, t0), (16, .int .i64 t16), (17, .int .i64 t17)] [] h_28 := by
        intro m
        induction m with
        | zero => intro t3 t4 t17 h_28 hF; cases hF
        | succ m ih27 =>
          intro t3 t4 t17 h_28 hF
          rw [law04_DiskPlays_L0_s] at hF; unfold law04_DiskPlays_L0b at hF
          refine b27 ?_
          refine W.seqK (by kernel_rfl) (fun K29 n29 e29 q29 p29 => ?_)
          refine W.region (by kernel_rfl) ?_
          replace hF := lett_some hF; obtain ⟨t18, e30, hF⟩ := hF
          refine WL.val (d := (some 18)) (v := .bool t18) (h' := h_28) (by kernel_rfl) (by kernel_rfl) (val_of AV.bool e30 (by kernel_rfl)) ?_
          refine WL.nil (by kernel_rfl) ?_
          refine Go.weaken (l' := [(3, t3), (4, t4), (15, t0), (16, .int .i64 t16), (17, .int .i64 t17), (18, .bool t18)]) (Fr.sub_cons (by kernel_rfl) (Fr.sub_cons (by kernel_rfl) (Fr.sub_cons (by kernel_rfl) (Fr.sub_cons (by kernel_rfl) (Fr.sub_cons (by kernel_rfl) (Fr.sub_cons (by kernel_rfl) (Fr.sub_nil _))))))) ?_
          refine n29 ?_
          refine W.seqK (by kernel_rfl) (fun K31 n31 e31 q31 p31 => ?_)
          cases t18 with
          | true =>
            replace hF := ifB_t hF
            refine W.cond_true (by kernel_rfl) (by kernel_rfl) ?_
            refine W.skip (by kernel_rfl) ?_
            refine n31 ?_
            refine W.seqK (by kernel_rfl) (fun K32 n32 e32 q32 p32 => ?_)
            refine W.blockK (by kernel_rfl) (fun K33 n33 s33 o33 q33 p33 => ?_)
            refine W.seqK (by kernel_rfl) (fun K34 n34 e34 q34 p34 => ?_)
            refine W.region (by kernel_rfl) ?_
            replace hF := obind_some hF; obtain ⟨t19, e35, hF⟩ := hF
            refine WL.val (d := (some 19)) (v := t19) (h' := h_28) (by kernel_rfl) (by kernel_rfl) (Eq.trans (by kernel_rfl) (index_row (P := Try.prog) (h := h_28) (t := 38) (e' := 43) (k := .i64) (by kernel_rfl) (by kernel_rfl) (by kernel_rfl) e35)) ?_
            replace hF := obind_some hF; obtain ⟨t20, e36, hF⟩ := hF
            refine WL.val (d := (some 20)) (v := .agg t20) (h' := h_28) (by kernel_rfl) (by kernel_rfl) (Eq.trans (by kernel_rfl) (load_row (P := Try.prog) (h := h_28) (t := 43) (by kernel_rfl) (by kernel_rfl) e36)) ?_
            replace hF := lett_some hF; obtain ⟨h_37, e38, hF⟩ := hF
            refine WL.val (d := (some 6)) (v := (newP h_28)) (h' := h_37) (by kernel_rfl) (by kernel_rfl) (val_ofH e38 (by kernel_rfl)) ?_
            replace hF := obind_some hF; obtain ⟨h_39, e40, hF⟩ := hF
            refine WL.eff (h' := h_39) (by kernel_rfl) (by kernel_rfl) (Eq.trans (by kernel_rfl) (store_row (P := Try.prog) (h := h_37) (t := 43) (v := (.agg t20)) (by kernel_rfl) (by kernel_rfl) e40)) ?_
            refine WL.nil (by kernel_rfl) ?_
            refine Go.weaken (l' := [(3, t3), (4, t4), (6, (newP h_28)), (15, t0), (16, .int .i64 t16), (17, .int .i64 t17)]) (Fr.sub_cons (by kernel_rfl) (Fr.sub_cons (by kernel_rfl) (Fr.sub_cons (by kernel_rfl) (Fr.sub_cons (by kernel_rfl) (Fr.sub_cons (by kernel_rfl) (Fr.sub_cons (by kernel_rfl) (Fr.sub_nil _))))))) ?_
            refine n34 ?_
            refine W.seqK (by kernel_rfl) (fun K41 n41 e41 q41 p41 => ?_)
            refine W.seqK (by kernel_rfl) (fun K42 n42 e42 q42 p42 => ?_)
            refine W.region (by kernel_rfl) ?_
            refine WL.val (d := (some 21)) (v := (AV.ptr (AHeap.next h_28) 0)) (h' := h_39) (by kernel_rfl) (by kernel_rfl) (by kernel_rfl) ?_
            replace hF := obind_some hF; obtain ⟨v22, e43, hF⟩ := hF
            replace hF := obind_some hF; obtain ⟨t22, c44, hF⟩ := hF
            have c44 := avInt_some c44
            subst c44
            refine WL.val (d := (some 22)) (v := .int .i64 t22) (h' := h_39) (by kernel_rfl) (by kernel_rfl) (Eq.trans (by kernel_rfl) (load_cell (P := Try.prog) (h := h_39) (t := 3) (by kernel_rfl) e43)) ?_
            replace hF := lett_some hF; obtain ⟨t23, e45, hF⟩ := hF
            refine WL.val (d := (some 23)) (v := .bool t23) (h' := h_39) (by kernel_rfl) (by kernel_rfl) (val_of AV.bool e45 (by kernel_rfl)) ?_
            refine WL.nil (by kernel_rfl) ?_
            refine Go.weaken (l' := [(3, t3), (4, t4), (6, (newP h_28)), (15, t0), (16, .int .i64 t16), (17, .int .i64 t17), (23, .bool t23)]) (Fr.sub_cons (by kernel_rfl) (Fr.sub_cons (by kernel_rfl) (Fr.sub_cons (by kernel_rfl) (Fr.sub_cons (by kernel_rfl) (Fr.sub_cons (by kernel_rfl) (Fr.sub_cons (by kernel_rfl) (Fr.sub_cons (by kernel_rfl) (Fr.sub_nil _)))))))) ?_
            refine n42 ?_
            replace hF := lett_some hF; obtain ⟨k46, e46, hF⟩ := hF
            have J46 : ∀ (t3_47 : AV) (t4_48 : AV) (h_49 : AHeap), k46 t3_47 t4_48 h_49 = some (rR, hR) → Go w0 m0 (Func.ntmps Try.f4) (K41 .normal) [(3, t3_47), (4, t4_48), (15, t0), (16, .int .i64 t16), (17, .int .i64 t17)] [] h_49 := by
              intro t3_47 t4_48 h_49 hF
              rw [e46] at hF
              refine n41 ?_
              refine W.seqK (by kernel_rfl) (fun K50 n50 e50 q50 p50 => ?_)
              refine W.region (by kernel_rfl) ?_
              refine WL.val (d := (some 42)) (v := t3_47) (h' := h_49) (by kernel_rfl) (by kernel_rfl) (by kernel_rfl) ?_
              refine WL.val (d := (some 43)) (v := t4_48) (h' := h_49) (by kernel_rfl) (by kernel_rfl) (by kernel_rfl) ?_
              replace hF := callN_some hF; obtain ⟨r44, h_51, e52, hF⟩ := hF
              replace hF := obind_some hF; obtain ⟨t44, c53, hF⟩ := hF
              have c53 := avBool_some c53
              subst c53
              refine WL.call (hc.ok w0) (d := (some 44)) (by kernel_rfl) (by kernel_rfl) (by kernel_rfl) e52 ?_
              replace hF := lett_some hF; obtain ⟨t45, e54, hF⟩ := hF
              refine WL.val (d := (some 45)) (v := .bool t45) (h' := h_51) (by kernel_rfl) (by kernel_rfl) (val_of AV.bool e54 (by kernel_rfl)) ?_
              refine WL.nil (by kernel_rfl) ?_
              refine Go.weaken (l' := [(3, t3_47), (4, t4_48), (15, t0), (16, .int .i64 t16), (17, .int .i64 t17), (45, .bool t45)]) (Fr.sub_cons (by kernel_rfl) (Fr.sub_cons (by kernel_rfl) (Fr.sub_cons (by kernel_rfl) (Fr.sub_cons (by kernel_rfl) (Fr.sub_cons (by kernel_rfl) (Fr.sub_cons (by kernel_rfl) (Fr.sub_nil _))))))) ?_
              refine n50 ?_
              cases t45 with
              | true =>
                replace hF := ifB_t hF
                refine W.cond_true (by kernel_rfl) (by kernel_rfl) ?_
                refine W.seqK (by kernel_rfl) (fun K55 n55 e55 q55 p55 => ?_)
                refine W.region (by kernel_rfl) ?_
                refine WL.val (d := (some 2)) (v := .bool false) (h' := h_51) (by kernel_rfl) (by kernel_rfl) (by kernel_rfl) ?_
                refine WL.nil (by kernel_rfl) ?_
                refine Go.weaken (l' := [(2, .bool false)]) (Fr.sub_cons (by kernel_rfl) (Fr.sub_nil _)) ?_
                refine n55 ?_
                refine W.ret (by kernel_rfl) ?_
                refine q33 ?_
                refine q32 ?_
                refine q27 ?_
                refine q23 ?_
                refine q20 ?_
                obtain ⟨hF, hF2⟩ := ret_inj hF; subst hF; subst hF2
                exact leave_of (rs := [.tmp 2]) (vs := [.bool false]) (by kernel_rfl) (res_tmp (by kernel_rfl) res_nil) (by kernel_rfl)
              | false =>
                replace hF := ifB_f hF
                refine W.cond_false (by kernel_rfl) (by kernel_rfl) ?_
                refine W.skip (by kernel_rfl) ?_
                refine n33 ?_
                refine n32 ?_
                refine W.region (by kernel_rfl) ?_
                replace hF := lett_some hF; obtain ⟨t46, e56, hF⟩ := hF
                refine WL.val (d := (some 46)) (v := .int .i64 t46) (h' := h_51) (by kernel_rfl) (by kernel_rfl) (val_of (AV.int .i64) e56 (by kernel_rfl)) ?_
                refine WL.val (d := (some 17)) (v := .int .i64 t46) (h' := h_51) (by kernel_rfl) (by kernel_rfl) (by kernel_rfl) ?_
                refine WL.nil (by kernel_rfl) ?_
                refine Go.weaken (l' := [(3, t3_47), (4, t4_48), (15, t0), (16, .int .i64 t16), (17, .int .i64 t46)]) (Fr.sub_cons (by kernel_rfl) (Fr.sub_cons (by kernel_rfl) (Fr.sub_cons (by kernel_rfl) (Fr.sub_cons (by kernel_rfl) (Fr.sub_cons (by kernel_rfl) (Fr.sub_nil _)))))) ?_
                refine n27 ?_
                exact Go.weaken (Fr.sub_cons (by kernel_rfl) (Fr.sub_cons (by kernel_rfl) (Fr.sub_cons (by kernel_rfl) (Fr.sub_cons (by kernel_rfl) (Fr.sub_cons (by kernel_rfl) (Fr.sub_nil _)))))) (ih27 _ _ _ _ hF)
            cases t23 with
            | true =>
              replace hF := ifB_t hF
              refine W.cond_true (by kernel_rfl) (by kernel_rfl) ?_
              refine W.seqK (by kernel_rfl) (fun K57 n57 e57 q57 p57 => ?_)
              refine W.region (by kernel_rfl) ?_
              refine WL.val (d := (some 24)) (v := t3) (h' := h_39) (by kernel_rfl) (by kernel_rfl) (by kernel_rfl) ?_
              replace hF := callN_some hF; obtain ⟨r25, h_58, e59, hF⟩ := hF
              refine WL.call (hc.ok w0) (d := (some 25)) (by kernel_rfl) (by kernel_rfl) (by kernel_rfl) e59 ?_
              refine WL.val (d := (some 26)) (v := t4) (h' := h_58) (by kernel_rfl) (by kernel_rfl) (by kernel_rfl) ?_
              replace hF := callN_some hF; obtain ⟨r27, h_60, e61, hF⟩ := hF
              refine WL.call (hc.ok w0) (d := (some 27)) (by kernel_rfl) (by kernel_rfl) (by kernel_rfl) e61 ?_
              refine WL.val (d := (some 7)) (v := r25) (h' := h_60) (by kernel_rfl) (by kernel_rfl) (by kernel_rfl) ?_
              refine WL.val (d := (some 8)) (v := r27) (h' := h_60) (by kernel_rfl) (by kernel_rfl) (by kernel_rfl) ?_
              refine WL.nil (by kernel_rfl) ?_
              refine Go.weaken (l' := [(3, t3), (7, r25), (8, r27), (15, t0), (16, .int .i64 t16), (17, .int .i64 t17)]) (Fr.sub_cons (by kernel_rfl) (Fr.sub_cons (by kernel_rfl) (Fr.sub_cons (by kernel_rfl) (Fr.sub_cons (by kernel_rfl) (Fr.sub_cons (by kernel_rfl) (Fr.sub_cons (by kernel_rfl) (Fr.sub_nil _))))))) ?_
              refine n57 ?_
              refine W.seqK (by kernel_rfl) (fun K62 n62 e62 q62 p62 => ?_)
              refine W.seqK (by kernel_rfl) (fun K63 n63 e63 q63 p63 => ?_)
              refine W.region (by kernel_rfl) ?_
              refine WL.val (d := (some 28)) (v := r25) (h' := h_60) (by kernel_rfl) (by kernel_rfl) (by kernel_rfl) ?_
              replace hF := outK_some hF; obtain ⟨v29, h_64, e65, hF⟩ := hF
              replace hF := obind_some hF; obtain ⟨t29, c66, hF⟩ := hF
              have c66 := avBool_some c66
              subst c66
              refine WL.val (d := (some 29)) (v := .bool t29) (h' := h_64) (by kernel_rfl) (by kernel_rfl) (Eq.trans (by kernel_rfl) e65) ?_
              refine WL.nil (by kernel_rfl) ?_
              refine Go.weaken (l' := [(3, t3), (7, r25), (8, r27), (15, t0), (16, .int .i64 t16), (17, .int .i64 t17), (29, .bool t29)]) (Fr.sub_cons (by kernel_rfl) (Fr.sub_cons (by kernel_rfl) (Fr.sub_cons (by kernel_rfl) (Fr.sub_cons (by kernel_rfl) (Fr.sub_cons (by kernel_rfl) (Fr.sub_cons (by kernel_rfl) (Fr.sub_cons (by kernel_rfl) (Fr.sub_nil _)))))))) ?_
              refine n63 ?_
              cases t29 with
              | true =>
                replace hF := ifB_t hF
                refine W.cond_true (by kernel_rfl) (by kernel_rfl) ?_
                refine W.seqK (by kernel_rfl) (fun K67 n67 e67 q67 p67 => ?_)
                refine W.region (by kernel_rfl) ?_
                refine WL.val (d := (some 2)) (v := .bool false) (h' := h_64) (by kernel_rfl) (by kernel_rfl) (by kernel_rfl) ?_
                refine WL.nil (by kernel_rfl) ?_
                refine Go.weaken (l' := [(2, .bool false)]) (Fr.sub_cons (by kernel_rfl) (Fr.sub_nil _)) ?_
                refine n67 ?_
                refine W.ret (by kernel_rfl) ?_
                refine q62 ?_
                refine q41 ?_
                refine q33 ?_
                refine q32 ?_
                refine q27 ?_
                refine q23 ?_
                refine q20 ?_
                obtain ⟨hF, hF2⟩ := ret_inj hF; subst hF; subst hF2
                exact leave_of (rs := [.tmp 2]) (vs := [.bool false]) (by kernel_rfl) (res_tmp (by kernel_rfl) res_nil) (by kernel_rfl)
              | false =>
                replace hF := ifB_f hF
                refine W.cond_false (by kernel_rfl) (by kernel_rfl) ?_
                refine W.skip (by kernel_rfl) ?_
                refine n62 ?_
                refine W.seqK (by kernel_rfl) (fun K68 n68 e68 q68 p68 => ?_)
                refine W.region (by kernel_rfl) ?_
                refine WL.val (d := (some 30)) (v := t3) (h' := h_64) (by kernel_rfl) (by kernel_rfl) (by kernel_rfl) ?_
                replace hF := callN_some hF; obtain ⟨r31, h_69, e70, hF⟩ := hF
                replace hF := obind_some hF; obtain ⟨t31, c71, hF⟩ := hF
                have c71 := avInt_some c71
                subst c71
                refine WL.call (hc.ok w0) (d := (some 31)) (by kernel_rfl) (by kernel_rfl) (by kernel_rfl) e70 ?_
                refine WL.nil (by kernel_rfl) ?_
                refine Go.weaken (l' := [(3, t3), (7, r25), (8, r27), (15, t0), (16, .int .i64 t16), (17, .int .i64 t17)]) (Fr.sub_cons (by kernel_rfl) (Fr.sub_cons (by kernel_rfl) (Fr.sub_cons (by kernel_rfl) (Fr.sub_cons (by kernel_rfl) (Fr.sub_cons (by kernel_rfl) (Fr.sub_cons (by kernel_rfl) (Fr.sub_nil _))))))) ?_
                refine n68 ?_
                refine W.seqK (by kernel_rfl) (fun K72 n72 e72 q72 p72 => ?_)
                refine W.region (by kernel_rfl) ?_
                refine WL.val (d := (some 32)) (v := t3) (h' := h_69) (by kernel_rfl) (by kernel_rfl) (by kernel_rfl) ?_
                replace hF := outK_some hF; obtain ⟨v33, h_73, e74, hF⟩ := hF
                refine WL.val (d := (some 33)) (v := v33) (h' := h_73) (by kernel_rfl) (by kernel_rfl) (Eq.trans (by kernel_rfl) e74) ?_
                replace hF := callN_some hF; obtain ⟨r34, h_75, e76, hF⟩ := hF
                replace hF := obind_some hF; obtain ⟨t34, c77, hF⟩ := hF
                have c77 := avInt_some c77
                subst c77
                refine WL.call (hc.ok w0) (d := (some 34)) (by kernel_rfl) (by kernel_rfl) (by kernel_rfl) e76 ?_
                refine WL.nil (by kernel_rfl) ?_
                refine Go.weaken (l' := [(7, r25), (8, r27), (15, t0), (16, .int .i64 t16), (17, .int .i64 t17)]) (Fr.sub_cons (by kernel_rfl) (Fr.sub_cons (by kernel_rfl) (Fr.sub_cons (by kernel_rfl) (Fr.sub_cons (by kernel_rfl) (Fr.sub_cons (by kernel_rfl) (Fr.sub_nil _)))))) ?_
                refine n72 ?_
                refine W.region (by kernel_rfl) ?_
                refine WL.val (d := (some 35)) (v := r25) (h' := h_75) (by kernel_rfl) (by kernel_rfl) (by kernel_rfl) ?_
                refine WL.val (d := (some 36)) (v := r27) (h' := h_75) (by kernel_rfl) (by kernel_rfl) (by kernel_rfl) ?_
                refine WL.val (d := (some 3)) (v := r25) (h' := h_75) (by kernel_rfl) (by kernel_rfl) (by kernel_rfl) ?_
                refine WL.val (d := (some 4)) (v := r27) (h' := h_75) (by kernel_rfl) (by kernel_rfl) (by kernel_rfl) ?_
                refine WL.nil (by kernel_rfl) ?_
                refine Go.weaken (l' := [(3, r25), (4, r27), (15, t0), (16, .int .i64 t16), (17, .int .i64 t17)]) (Fr.sub_cons (by kernel_rfl) (Fr.sub_cons (by kernel_rfl) (Fr.sub_cons (by kernel_rfl) (Fr.sub_cons (by kernel_rfl) (Fr.sub_cons (by kernel_rfl) (Fr.sub_nil _)))))) ?_
                exact Go.weaken (Fr.sub_cons (by kernel_rfl) (Fr.sub_cons (by kernel_rfl) (Fr.sub_cons (by kernel_rfl) (Fr.sub_cons (by kernel_rfl) (Fr.sub_cons (by kernel_rfl) (Fr.sub_nil _)))))) (J46 _ _ _ hF)
            | false =>
              replace hF := ifB_f hF
              refine W.cond_false (by kernel_rfl) (by kernel_rfl) ?_
              refine W.seqK (by kernel_rfl) (fun K78 n78 e78 q78 p78 => ?_)
              refine W.region (by kernel_rfl) ?_
              refine WL.val (d := (some 37)) (v := t3) (h' := h_39) (by kernel_rfl) (by kernel_rfl) (by kernel_rfl) ?_
              refine WL.val (d := (some 38)) (v := t4) (h' := h_39) (by kernel_rfl) (by kernel_rfl) (by kernel_rfl) ?_
              replace hF := obind_some hF; obtain ⟨t39, e79, hF⟩ := hF
              refine WL.val (d := (some 39)) (v := .agg t39) (h' := h_39) (by kernel_rfl) (by kernel_rfl) (Eq.trans (by kernel_rfl) (load_row (P := Try.prog) (h := h_39) (t := 43) (by kernel_rfl) (by kernel_rfl) e79)) ?_
              replace hF := callN_some hF; obtain ⟨r40, h_80, e81, hF⟩ := hF
              replace hF := obind_some hF; obtain ⟨t40, c82, hF⟩ := hF
              have c82 := avBool_some c82
              subst c82
              refine WL.call (hc.ok w0) (d := (some 40)) (by kernel_rfl) (by kernel_rfl) (by kernel_rfl) e81 ?_
              replace hF := lett_some hF; obtain ⟨t41, e83, hF⟩ := hF
              refine WL.val (d := (some 41)) (v := .bool t41) (h' := h_80) (by kernel_rfl) (by kernel_rfl) (val_of AV.bool e83 (by kernel_rfl)) ?_
              refine WL.nil (by kernel_rfl) ?_
              refine Go.weaken (l' := [(3, t3), (4, t4), (15, t0), (16, .int .i64 t16), (17, .int .i64 t17), (41, .bool t41)]) (Fr.sub_cons (by kernel_rfl) (Fr.sub_cons (by kernel_rfl) (Fr.sub_cons (by kernel_rfl) (Fr.sub_cons (by kernel_rfl) (Fr.sub_cons (by kernel_rfl) (Fr.sub_cons (by kernel_rfl) (Fr.sub_nil _))))))) ?_
              refine n78 ?_
              cases t41 with
              | true =>
                replace hF := ifB_t hF
                refine W.cond_true (by kernel_rfl) (by kernel_rfl) ?_
                refine W.seqK (by kernel_rfl) (fun K84 n84 e84 q84 p84 => ?_)
                refine W.region (by kernel_rfl) ?_
                refine WL.val (d := (some 2)) (v := .bool false) (h' := h_80) (by kernel_rfl) (by kernel_rfl) (by kernel_rfl) ?_
                refine WL.nil (by kernel_rfl) ?_
                refine Go.weaken (l' := [(2, .bool false)]) (Fr.sub_cons (by kernel_rfl) (Fr.sub_nil _)) ?_
                refine n84 ?_
                refine W.ret (by kernel_rfl) ?_
                refine q41 ?_
                refine q33 ?_
                refine q32 ?_
                refine q27 ?_
                refine q23 ?_
                refine q20 ?_
                obtain ⟨hF, hF2⟩ := ret_inj hF; subst hF; subst hF2
                exact leave_of (rs := [.tmp 2]) (vs := [.bool false]) (by kernel_rfl) (res_tmp (by kernel_rfl) res_nil) (by kernel_rfl)
              | false =>
                replace hF := ifB_f hF
                refine W.cond_false (by kernel_rfl) (by kernel_rfl) ?_
                refine W.skip (by kernel_rfl) ?_
                exact Go.weaken (Fr.sub_cons (by kernel_rfl) (Fr.sub_cons (by kernel_rfl) (Fr.sub_cons (by kernel_rfl) (Fr.sub_cons (by kernel_rfl) (Fr.sub_cons (by kernel_rfl) (Fr.sub_nil _)))))) (J46 _ _ _ hF)
          | false =>
            replace hF := ifB_f hF
            refine W.cond_false (by kernel_rfl) (by kernel_rfl) ?_
            refine W.exit (by kernel_rfl) ?_
            refine e31 ?_
            refine e27 ?_
            refine s23 (by kernel_rfl) ?_
            exact Go.weaken (Fr.sub_nil _) (J24 _ hF)
      exact Go.weaken (Fr.sub_cons (by kernel_rfl) (Fr.sub_cons (by kernel_rfl) (Fr.sub_cons (by kernel_rfl) (Fr.sub_cons (by kernel_rfl) (Fr.sub_cons (by kernel_rfl) (Fr.sub_nil _)))))) (L27 _ _ _ _ _ hF)
noncomputable def law04_DiskPlays_fn (call : CallF) (n : Nat) : FnT := fun args h => match args with
  | [x0] => law04_DiskPlays call n x0 h
  | _ => none
set_option maxRecDepth 100000 in
theorem law04_DiskPlays_fn_eq (call : CallF) (n : Nat) (t0 : AV) (h : AHeap) : law04_DiskPlays_fn call n [t0] h = law04_DiskPlays call n t0 h :=
  rfl
theorem law04_DiskPlays_holds {call : CallF} (hc : SaysAll Try.prog call) (n : Nat) : Holds Try.prog 4 (law04_DiskPlays_fn call n) := by
  intro args h r h2 e
  unfold law04_DiskPlays_fn at e
  split at e
  · exact law04_DiskPlays_ok hc e
  · cases e

end Go.Proofs.Ytcbnpdfingfmgaa
