/- Plain functions in place of the program's, and that their calls come to what they say. -/
import Derived.Test.YtjhnmfhpjlolhaaGl
namespace Go.Proofs.Ytjhnmfhpjlolhaa
open Go.RowKit Abs

noncomputable def law20_LeaseRises_L0b (call : CallF) (t0 : AV) (r14 : AV) (h_15 : AHeap) (t16 : Int) (k24 : AHeap → R) (self : Int → AHeap → R) (t17 : Int) (h_28 : AHeap) : R :=
  lett (decide (t17 < t16)) fun (t18 : Bool) =>
  ifB t18
  (
    obind (idxP 1 t0 t17) fun t19 =>
    obind (ldCell h_28 t19) fun v20 =>
    obind (avInt .i64 v20) fun t20 =>
    callN (call 11 [r14, .int .i64 t20] h_28) fun r24 h_39 =>
    obind (extT 0 r24) fun v25 =>
    obind (avAgg v25) fun t25 =>
    obind (extT 1 r24) fun v26 =>
    obind (avInt .i64 v26) fun t26 =>
    lett (newH h_39 36 [.int .i64 0, .int .i64 0]) fun h_45 =>
    obind (stRow h_45 2 t25 (newP h_39)) fun h_47 =>
    lett (decide (t20 < 1)) fun (t44 : Bool) =>
    lett (fun (t48 : Bool) (h_53 : AHeap) =>
      lett (fun  (h_57 : AHeap) =>
        lett ((t26 : Int) != 0) fun (t59 : Bool) =>
        lett (fun (t64 : Bool) (h_60 : AHeap) =>
          ifB t64
          (
            some (.ret (.bool false), h_60))
          (
            lett (IntKind.i64.wrap (t17 + 1)) fun (t65 : Int) =>
            self t65 h_60)) fun j64 =>
        ifB t59
        (
          obind (ldRow h_57 2 (newP h_39)) fun t61 =>
          obind (eqOther Try.prog 36 (.agg t61) (.agg ([.int .i64 0, .int .i64 0] : List AV))) fun t63 =>
          lett (!t63) fun (t63_67 : Bool) =>
          j64 t63_67 h_57)
        (
          j64 false h_57)) fun k56 =>
      ifB t48
      (
        lett ((t26 : Int) != 2) fun (t50 : Bool) =>
        ifB t50
        (
          some (.ret (.bool false), h_53))
        (
          k56 h_53))
      (
        obind (ldCell h_53 (AV.ptr (AHeap.next h_15) 0)) fun v54 =>
        obind (avInt .i64 v54) fun t54 =>
        lett (decide (t20 < t54)) fun (t55 : Bool) =>
        lett (fun  (h_77 : AHeap) =>
          k56 h_77) fun k76 =>
        ifB t55
        (
          lett ((t26 : Int) != 5) fun (t57 : Bool) =>
          ifB t57
          (
            some (.ret (.bool false), h_53))
          (
            k76 h_53))
        (
          lett ((t26 : Int) != 0) fun (t28 : Bool) =>
          lett (fun (t34 : Bool) (h_84 : AHeap) =>
            lett (fun (t40 : Bool) (h_87 : AHeap) =>
              ifB t40
              (
                some (.ret (.bool false), h_87))
              (
                obind (ldRow h_87 2 (newP h_39)) fun t41 =>
                obind (stRow h_87 2 t41 (newP h_15)) fun h_92 =>
                k76 h_92)) fun j40 =>
            ifB t34
            (
              j40 true h_84)
            (
              obind (ldRow h_84 2 (newP h_39)) fun t36 =>
              obind (ldRow h_84 2 (newP h_15)) fun t37 =>
              callN (call 20 [.agg t36, .agg t37] h_84) fun r38 h_96 =>
              obind (avBool r38) fun t38 =>
              lett (!t38) fun (t39 : Bool) =>
              j40 t39 h_96)) fun j34 =>
          ifB t28
          (
            j34 true h_53)
          (
            obind (ldCell h_53 (AV.ptr (AHeap.next h_39) 0)) fun v31 =>
            obind (avInt .i64 v31) fun t31 =>
            lett ((t31 : Int) != t20) fun (t33 : Bool) =>
            j34 t33 h_53)))) fun j48 =>
    ifB t44
    (
      j48 true h_47)
    (
      lett (decide (t20 > 1099511627776)) fun (t47 : Bool) =>
      j48 t47 h_47))
  (
    k24 h_28)
noncomputable def law20_LeaseRises_L0 (call : CallF) (t0 : AV) (r14 : AV) (h_15 : AHeap) (t16 : Int) (k24 : AHeap → R) : Nat → Int → AHeap → R := iterR (fun _ _ => none) (law20_LeaseRises_L0b call t0 r14 h_15 t16 k24)
theorem law20_LeaseRises_L0_s (call : CallF) (t0 : AV) (r14 : AV) (h_15 : AHeap) (t16 : Int) (k24 : AHeap → R) (m : Nat) : law20_LeaseRises_L0 call t0 r14 h_15 t16 k24 (m + 1) = law20_LeaseRises_L0b call t0 r14 h_15 t16 k24 (law20_LeaseRises_L0 call t0 r14 h_15 t16 k24 m) := rfl
noncomputable def law20_LeaseRises (call : CallF) (n : Nat) (t0 : AV) (h : AHeap) : R :=
  callN (call 8 [] h) fun r9 h_4 =>
  obind (avBool r9) fun t9 =>
  lett (!t9) fun (t10 : Bool) =>
  ifB t10
  (
    some (.ret (.bool false), h_4))
  (
    obind (lenL t0) fun t12 =>
    lett (decide (t12 > 1000)) fun (t13 : Bool) =>
    ifB t13
    (
      some (.ret (.bool true), h_4))
    (
      callN (call 10 [] h_4) fun r14 h_15 =>
      lett (newH h_15 36 [.int .i64 0, .int .i64 0]) fun h_18 =>
      obind (lenL t0) fun t16 =>
      lett (fun  (h_25 : AHeap) =>
        some (.ret (.bool true), h_25)) fun k24 =>
      law20_LeaseRises_L0 call t0 r14 h_15 t16 k24 n 0 h_18))
set_option maxHeartbeats 4000000 in
set_option maxRecDepth 20000 in
theorem law20_LeaseRises_ok {call : CallF} (hc : SaysAll Try.prog call) {n : Nat} {t0 : AV} {h : AHeap} {rR : ARes} {hR : AHeap} (hF : law20_LeaseRises call n t0 h = some (rR, hR)) : Says Try.prog 7 [t0] h rR hR := by
  unfold law20_LeaseRises at hF
  refine says_of (fn := Try.f7) Try.func7 (c := codeOf Try.f7) (by kernel_rfl) (by kernel_rfl) (fun w0 m0 => ?_)
  refine W.weaken (l' := [(0, t0)]) (Fr.sub_cons (by kernel_rfl) (Fr.sub_nil _)) ?_
  refine W.seqK (by kernel_rfl) (fun K1 n1 e1 r1 p1 => ?_)
  refine W.region (by kernel_rfl) ?_
  refine WL.val (d := (some 2)) (v := .bool false) (h' := h) (by kernel_rfl) (by kernel_rfl) (by kernel_rfl) ?_
  refine WL.nil (by kernel_rfl) ?_
  refine Go.weaken (l' := [(0, t0)]) (Fr.sub_cons (by kernel_rfl) (Fr.sub_nil _)) ?_
  refine n1 ?_
  refine W.seqK (by kernel_rfl) (fun K2 n2 e2 r2 p2 => ?_)
  refine W.seqK (by kernel_rfl) (fun K3 n3 e3 r3 p3 => ?_)
  refine W.region (by kernel_rfl) ?_
  replace hF := callN_some hF; obtain ⟨r9, h_4, e5, hF⟩ := hF
  replace hF := obind_some hF; obtain ⟨t9, c6, hF⟩ := hF
  have c6 := avBool_some c6
  subst c6
  refine WL.call (hc.ok w0) (d := (some 9)) (by kernel_rfl) (by kernel_rfl) (by kernel_rfl) e5 ?_
  replace hF := lett_some hF; obtain ⟨t10, e7, hF⟩ := hF
  refine WL.val (d := (some 10)) (v := .bool t10) (h' := h_4) (by kernel_rfl) (by kernel_rfl) (val_of AV.bool e7 (by kernel_rfl)) ?_
  refine WL.nil (by kernel_rfl) ?_
  refine Go.weaken (l' := [(0, t0), (10, .bool t10)]) (Fr.sub_cons (by kernel_rfl) (Fr.sub_cons (by kernel_rfl) (Fr.sub_nil _))) ?_
  refine n3 ?_
  cases t10 with
  | true =>
    replace hF := ifB_t hF
    refine W.cond_true (by kernel_rfl) (by kernel_rfl) ?_
    refine W.seqK (by kernel_rfl) (fun K8 n8 e8 r8 p8 => ?_)
    refine W.region (by kernel_rfl) ?_
    refine WL.val (d := (some 2)) (v := .bool false) (h' := h_4) (by kernel_rfl) (by kernel_rfl) (by kernel_rfl) ?_
    refine WL.nil (by kernel_rfl) ?_
    refine Go.weaken (l' := [(2, .bool false)]) (Fr.sub_cons (by kernel_rfl) (Fr.sub_nil _)) ?_
    refine n8 ?_
    refine W.ret (by kernel_rfl) ?_
    refine r2 ?_
    obtain ⟨hF, hF2⟩ := ret_inj hF; subst hF; subst hF2
    exact leave_of (rs := [.tmp 2]) (vs := [.bool false]) (by kernel_rfl) (res_tmp (by kernel_rfl) res_nil) (by kernel_rfl)
  | false =>
    replace hF := ifB_f hF
    refine W.cond_false (by kernel_rfl) (by kernel_rfl) ?_
    refine W.skip (by kernel_rfl) ?_
    refine n2 ?_
    refine W.seqK (by kernel_rfl) (fun K9 n9 e9 r9 p9 => ?_)
    refine W.seqK (by kernel_rfl) (fun K10 n10 e10 r10 p10 => ?_)
    refine W.region (by kernel_rfl) ?_
    refine WL.val (d := (some 11)) (v := t0) (h' := h_4) (by kernel_rfl) (by kernel_rfl) (by kernel_rfl) ?_
    replace hF := obind_some hF; obtain ⟨t12, e11, hF⟩ := hF
    refine WL.val (d := (some 12)) (v := .int .i64 t12) (h' := h_4) (by kernel_rfl) (by kernel_rfl) (Eq.trans (by kernel_rfl) (len_row (P := Try.prog) (h := h_4) (t := 52) (e' := 3) (by kernel_rfl) e11)) ?_
    replace hF := lett_some hF; obtain ⟨t13, e12, hF⟩ := hF
    refine WL.val (d := (some 13)) (v := .bool t13) (h' := h_4) (by kernel_rfl) (by kernel_rfl) (val_of AV.bool e12 (by kernel_rfl)) ?_
    refine WL.nil (by kernel_rfl) ?_
    refine Go.weaken (l' := [(0, t0), (13, .bool t13)]) (Fr.sub_cons (by kernel_rfl) (Fr.sub_cons (by kernel_rfl) (Fr.sub_nil _))) ?_
    refine n10 ?_
    cases t13 with
    | true =>
      replace hF := ifB_t hF
      refine W.cond_true (by kernel_rfl) (by kernel_rfl) ?_
      refine W.seqK (by kernel_rfl) (fun K13 n13 e13 r13 p13 => ?_)
      refine W.region (by kernel_rfl) ?_
      refine WL.val (d := (some 2)) (v := .bool true) (h' := h_4) (by kernel_rfl) (by kernel_rfl) (by kernel_rfl) ?_
      refine WL.nil (by kernel_rfl) ?_
      refine Go.weaken (l' := [(2, .bool true)]) (Fr.sub_cons (by kernel_rfl) (Fr.sub_nil _)) ?_
      refine n13 ?_
      refine W.ret (by kernel_rfl) ?_
      refine r9 ?_
      obtain ⟨hF, hF2⟩ := ret_inj hF; subst hF; subst hF2
      exact leave_of (rs := [.tmp 2]) (vs := [.bool true]) (by kernel_rfl) (res_tmp (by kernel_rfl) res_nil) (by kernel_rfl)
    | false =>
      replace hF := ifB_f hF
      refine W.cond_false (by kernel_rfl) (by kernel_rfl) ?_
      refine W.skip (by kernel_rfl) ?_
      refine n9 ?_
      refine W.seqK (by kernel_rfl) (fun K14 n14 e14 r14 p14 => ?_)
      refine W.region (by kernel_rfl) ?_
      replace hF := callN_some hF; obtain ⟨r14, h_15, e16, hF⟩ := hF
      refine WL.call (hc.ok w0) (d := (some 14)) (by kernel_rfl) (by kernel_rfl) (by kernel_rfl) e16 ?_
      refine WL.val (d := (some 3)) (v := r14) (h' := h_15) (by kernel_rfl) (by kernel_rfl) (by kernel_rfl) ?_
      refine WL.nil (by kernel_rfl) ?_
      refine Go.weaken (l' := [(0, t0), (3, r14)]) (Fr.sub_cons (by kernel_rfl) (Fr.sub_cons (by kernel_rfl) (Fr.sub_nil _))) ?_
      refine n14 ?_
      refine W.seqK (by kernel_rfl) (fun K17 n17 e17 r17 p17 => ?_)
      refine W.region (by kernel_rfl) ?_
      replace hF := lett_some hF; obtain ⟨h_18, e19, hF⟩ := hF
      refine WL.val (d := (some 4)) (v := (newP h_15)) (h' := h_18) (by kernel_rfl) (by kernel_rfl) (val_ofH e19 (by kernel_rfl)) ?_
      refine WL.nil (by kernel_rfl) ?_
      refine Go.weaken (l' := [(0, t0), (3, r14), (4, (newP h_15))]) (Fr.sub_cons (by kernel_rfl) (Fr.sub_cons (by kernel_rfl) (Fr.sub_cons (by kernel_rfl) (Fr.sub_nil _)))) ?_
      refine n17 ?_
      refine W.seqK (by kernel_rfl) (fun K20 n20 e20 r20 p20 => ?_)
      refine W.seqK (by kernel_rfl) (fun K21 n21 e21 r21 p21 => ?_)
      refine W.region (by kernel_rfl) ?_
      refine WL.val (d := (some 15)) (v := t0) (h' := h_18) (by kernel_rfl) (by kernel_rfl) (by kernel_rfl) ?_
      replace hF := obind_some hF; obtain ⟨t16, e22, hF⟩ := hF
      refine WL.val (d := (some 16)) (v := .int .i64 t16) (h' := h_18) (by kernel_rfl) (by kernel_rfl) (Eq.trans (by kernel_rfl) (len_row (P := Try.prog) (h := h_18) (t := 52) (e' := 3) (by kernel_rfl) e22)) ?_
      refine WL.val (d := (some 17)) (v := .int .i64 0) (h' := h_18) (by kernel_rfl) (by kernel_rfl) (by kernel_rfl) ?_
      refine WL.nil (by kernel_rfl) ?_
      refine Go.weaken (l' := [(3, r14), (4, (newP h_15)), (15, t0), (16, .int .i64 t16), (17, .int .i64 0)]) (Fr.sub_cons (by kernel_rfl) (Fr.sub_cons (by kernel_rfl) (Fr.sub_cons (by kernel_rfl) (Fr.sub_cons (by kernel_rfl) (Fr.sub_cons (by kernel_rfl) (Fr.sub_nil _)))))) ?_
      refine n21 ?_
      replace hF := lett_some hF; obtain ⟨k24, e24, hF⟩ := hF
      have J24 : ∀  (h_25 : AHeap), k24 h_25 = some (rR, hR) → Go w0 m0 (Func.ntmps Try.f7) (K20 .normal) [] [] h_25 := by
        intro  h_25 hF
        rw [e24] at hF
        refine n20 ?_
        refine W.seqK (by kernel_rfl) (fun K26 n26 e26 r26 p26 => ?_)
        refine W.region (by kernel_rfl) ?_
        refine WL.val (d := (some 2)) (v := .bool true) (h' := h_25) (by kernel_rfl) (by kernel_rfl) (by kernel_rfl) ?_
        refine WL.nil (by kernel_rfl) ?_
        refine Go.weaken (l' := [(2, .bool true)]) (Fr.sub_cons (by kernel_rfl) (Fr.sub_nil _)) ?_
        refine n26 ?_
        refine W.ret (by kernel_rfl) ?_
        obtain ⟨hF, hF2⟩ := ret_inj hF; subst hF; subst hF2
        exact leave_of (rs := [.tmp 2]) (vs := [.bool true]) (by kernel_rfl) (res_tmp (by kernel_rfl) res_nil) (by kernel_rfl)
      refine W.blockK (by kernel_rfl) (fun K23 n23 s23 o23 r23 p23 => ?_)
      refine W.loopK (by kernel_rfl) (fun I27 K27 b27 n27 e27 r27 p27 => ?_)
      have L27 : ∀ (m : Nat) (t17 : Int) (h_28 : AHeap), law20_LeaseRises_L0 call t0 r14 h_15 t16 k24 m t17 h_28 = some (rR, hR) → Go w0 m0 (Func.ntmps Try.f7) I27 [(3, r14), (4, (newP h_15)), (15, t0), (16, .int .i64 t16), (17, .int .i64 t17)] [] h_28 := by
        intro m
        induction m with
        | zero => intro t17 h_28 hF; cases hF
        | succ m ih27 =>
          intro t17 h_28 hF
          rw [law20_LeaseRises_L0_s] at hF; unfold law20_LeaseRises_L0b at hF
          refine b27 ?_
          refine W.seqK (by kernel_rfl) (fun K29 n29 e29 r29 p29 => ?_)
          refine W.region (by kernel_rfl) ?_
          replace hF := lett_some hF; obtain ⟨t18, e30, hF⟩ := hF
          refine WL.val (d := (some 18)) (v := .bool t18) (h' := h_28) (by kernel_rfl) (by kernel_rfl) (val_of AV.bool e30 (by kernel_rfl)) ?_
          refine WL.nil (by kernel_rfl) ?_
          refine Go.weaken (l' := [(3, r14), (4, (newP h_15)), (15, t0), (16, .int .i64 t16), (17, .int .i64 t17), (18, .bool t18)]) (Fr.sub_cons (by kernel_rfl) (Fr.sub_cons (by kernel_rfl) (Fr.sub_cons (by kernel_rfl) (Fr.sub_cons (by kernel_rfl) (Fr.sub_cons (by kernel_rfl) (Fr.sub_cons (by kernel_rfl) (Fr.sub_nil _))))))) ?_
          refine n29 ?_
          refine W.seqK (by kernel_rfl) (fun K31 n31 e31 r31 p31 => ?_)
          cases t18 with
          | true =>
            replace hF := ifB_t hF
            refine W.cond_true (by kernel_rfl) (by kernel_rfl) ?_
            refine W.skip (by kernel_rfl) ?_
            refine n31 ?_
            refine W.seqK (by kernel_rfl) (fun K32 n32 e32 r32 p32 => ?_)
            refine W.blockK (by kernel_rfl) (fun K33 n33 s33 o33 r33 p33 => ?_)
            refine W.seqK (by kernel_rfl) (fun K34 n34 e34 r34 p34 => ?_)
            refine W.region (by kernel_rfl) ?_
            replace hF := obind_some hF; obtain ⟨t19, e35, hF⟩ := hF
            refine WL.val (d := (some 19)) (v := t19) (h' := h_28) (by kernel_rfl) (by kernel_rfl) (Eq.trans (by kernel_rfl) (index_row (P := Try.prog) (h := h_28) (t := 52) (e' := 3) (k := .i64) (by kernel_rfl) (by kernel_rfl) (by kernel_rfl) e35)) ?_
            replace hF := obind_some hF; obtain ⟨v20, e36, hF⟩ := hF
            replace hF := obind_some hF; obtain ⟨t20, c37, hF⟩ := hF
            have c37 := avInt_some c37
            subst c37
            refine WL.val (d := (some 20)) (v := .int .i64 t20) (h' := h_28) (by kernel_rfl) (by kernel_rfl) (Eq.trans (by kernel_rfl) (load_cell (P := Try.prog) (h := h_28) (t := 3) (by kernel_rfl) e36)) ?_
            refine WL.val (d := (some 6)) (v := .int .i64 t20) (h' := h_28) (by kernel_rfl) (by kernel_rfl) (by kernel_rfl) ?_
            refine WL.nil (by kernel_rfl) ?_
            refine Go.weaken (l' := [(3, r14), (4, (newP h_15)), (6, .int .i64 t20), (15, t0), (16, .int .i64 t16), (17, .int .i64 t17)]) (Fr.sub_cons (by kernel_rfl) (Fr.sub_cons (by kernel_rfl) (Fr.sub_cons (by kernel_rfl) (Fr.sub_cons (by kernel_rfl) (Fr.sub_cons (by kernel_rfl) (Fr.sub_cons (by kernel_rfl) (Fr.sub_nil _))))))) ?_
            refine n34 ?_
            refine W.seqK (by kernel_rfl) (fun K38 n38 e38 r38 p38 => ?_)
            refine W.region (by kernel_rfl) ?_
            refine WL.val (d := (some 22)) (v := r14) (h' := h_28) (by kernel_rfl) (by kernel_rfl) (by kernel_rfl) ?_
            refine WL.val (d := (some 23)) (v := .int .i64 t20) (h' := h_28) (by kernel_rfl) (by kernel_rfl) (by kernel_rfl) ?_
            replace hF := callN_some hF; obtain ⟨r24, h_39, e40, hF⟩ := hF
            refine WL.call (hc.ok w0) (d := (some 24)) (by kernel_rfl) (by kernel_rfl) (by kernel_rfl) e40 ?_
            refine WL.val (d := (some 21)) (v := r24) (h' := h_39) (by kernel_rfl) (by kernel_rfl) (by kernel_rfl) ?_
            replace hF := obind_some hF; obtain ⟨v25, e41, hF⟩ := hF
            replace hF := obind_some hF; obtain ⟨t25, c42, hF⟩ := hF
            have c42 := avAgg_some c42
            subst c42
            refine WL.val (d := (some 25)) (v := .agg t25) (h' := h_39) (by kernel_rfl) (by kernel_rfl) (Eq.trans (by kernel_rfl) (extract_tup (h := h_39) e41)) ?_
            replace hF := obind_some hF; obtain ⟨v26, e43, hF⟩ := hF
            replace hF := obind_some hF; obtain ⟨t26, c44, hF⟩ := hF
            have c44 := avInt_some c44
            subst c44
            refine WL.val (d := (some 26)) (v := .int .i64 t26) (h' := h_39) (by kernel_rfl) (by kernel_rfl) (Eq.trans (by kernel_rfl) (extract_tup (h := h_39) e43)) ?_
            replace hF := lett_some hF; obtain ⟨h_45, e46, hF⟩ := hF
            refine WL.val (d := (some 7)) (v := (newP h_39)) (h' := h_45) (by kernel_rfl) (by kernel_rfl) (val_ofH e46 (by kernel_rfl)) ?_
            replace hF := obind_some hF; obtain ⟨h_47, e48, hF⟩ := hF
            refine WL.eff (h' := h_47) (by kernel_rfl) (by kernel_rfl) (Eq.trans (by kernel_rfl) (store_row (P := Try.prog) (h := h_45) (t := 36) (v := (.agg t25)) (by kernel_rfl) (by kernel_rfl) e48)) ?_
            refine WL.val (d := (some 8)) (v := .int .i64 t26) (h' := h_47) (by kernel_rfl) (by kernel_rfl) (by kernel_rfl) ?_
            refine WL.nil (by kernel_rfl) ?_
            refine Go.weaken (l' := [(3, r14), (4, (newP h_15)), (6, .int .i64 t20), (7, (newP h_39)), (8, .int .i64 t26), (15, t0), (16, .int .i64 t16), (17, .int .i64 t17)]) (Fr.sub_cons (by kernel_rfl) (Fr.sub_cons (by kernel_rfl) (Fr.sub_cons (by kernel_rfl) (Fr.sub_cons (by kernel_rfl) (Fr.sub_cons (by kernel_rfl) (Fr.sub_cons (by kernel_rfl) (Fr.sub_cons (by kernel_rfl) (Fr.sub_cons (by kernel_rfl) (Fr.sub_nil _))))))))) ?_
            refine n38 ?_
            refine W.seqK (by kernel_rfl) (fun K49 n49 e49 r49 p49 => ?_)
            refine W.blockK (by kernel_rfl) (fun K50 n50 s50 o50 r50 p50 => ?_)
            refine W.seqK (by kernel_rfl) (fun K51 n51 e51 r51 p51 => ?_)
            refine W.region (by kernel_rfl) ?_
            refine WL.val (d := (some 43)) (v := .int .i64 t20) (h' := h_47) (by kernel_rfl) (by kernel_rfl) (by kernel_rfl) ?_
            replace hF := lett_some hF; obtain ⟨t44, e52, hF⟩ := hF
            refine WL.val (d := (some 44)) (v := .bool t44) (h' := h_47) (by kernel_rfl) (by kernel_rfl) (val_of AV.bool e52 (by kernel_rfl)) ?_
            refine WL.val (d := (some 45)) (v := .bool t44) (h' := h_47) (by kernel_rfl) (by kernel_rfl) (by kernel_rfl) ?_
            replace hF := lett_some hF; obtain ⟨j48, e54, hF⟩ := hF
            have J55 : ∀ (t48 : Bool) (h_53 : AHeap), j48 t48 h_53 = some (rR, hR) → WL Try.prog w0 m0 (Func.ntmps Try.f7) (Code.ops (Code.p1 (Code.p1 (Code.p1 (Code.p2 (Code.p2 (Code.p1 (Code.p1 (Code.p2 (Code.p2 (Code.p1 (Code.p1 (Code.p2 (Code.p1 (Code.p2 (Code.p2 (Code.p2 (Code.p2 (Code.p2 (codeOf Try.f7)))))))))))))))))))) 6 K51 [(3, r14), (4, (newP h_15)), (6, .int .i64 t20), (7, (newP h_39)), (8, .int .i64 t26), (15, t0), (16, .int .i64 t16), (17, .int .i64 t17), (48, .bool t48)] [] h_53 := by
              intro t48 h_53 hF
              rw [e54] at hF
              refine WL.val (d := (some 42)) (v := .bool t48) (h' := h_53) (by kernel_rfl) (by kernel_rfl) (by kernel_rfl) ?_
              refine WL.nil (by kernel_rfl) ?_
              refine Go.weaken (l' := [(3, r14), (4, (newP h_15)), (6, .int .i64 t20), (7, (newP h_39)), (8, .int .i64 t26), (15, t0), (16, .int .i64 t16), (17, .int .i64 t17), (42, .bool t48)]) (Fr.sub_cons (by kernel_rfl) (Fr.sub_cons (by kernel_rfl) (Fr.sub_cons (by kernel_rfl) (Fr.sub_cons (by kernel_rfl) (Fr.sub_cons (by kernel_rfl) (Fr.sub_cons (by kernel_rfl) (Fr.sub_cons (by kernel_rfl) (Fr.sub_cons (by kernel_rfl) (Fr.sub_cons (by kernel_rfl) (Fr.sub_nil _)))))))))) ?_
              refine n51 ?_
              replace hF := lett_some hF; obtain ⟨k56, e56, hF⟩ := hF
              have J56 : ∀  (h_57 : AHeap), k56 h_57 = some (rR, hR) → Go w0 m0 (Func.ntmps Try.f7) (K50 .normal) [(3, r14), (4, (newP h_15)), (7, (newP h_39)), (8, .int .i64 t26), (15, t0), (16, .int .i64 t16), (17, .int .i64 t17)] [] h_57 := by
                intro  h_57 hF
                rw [e56] at hF
                refine n50 ?_
                refine n49 ?_
                refine W.seqK (by kernel_rfl) (fun K58 n58 e58 r58 p58 => ?_)
                refine W.region (by kernel_rfl) ?_
                refine WL.val (d := (some 58)) (v := .int .i64 t26) (h' := h_57) (by kernel_rfl) (by kernel_rfl) (by kernel_rfl) ?_
                replace hF := lett_some hF; obtain ⟨t59, e59, hF⟩ := hF
                refine WL.val (d := (some 59)) (v := .bool t59) (h' := h_57) (by kernel_rfl) (by kernel_rfl) (val_of AV.bool e59 (by kernel_rfl)) ?_
                refine WL.val (d := (some 60)) (v := .bool t59) (h' := h_57) (by kernel_rfl) (by kernel_rfl) (by kernel_rfl) ?_
                replace hF := lett_some hF; obtain ⟨j64, e61, hF⟩ := hF
                have J62 : ∀ (t64 : Bool) (h_60 : AHeap), j64 t64 h_60 = some (rR, hR) → WL Try.prog w0 m0 (Func.ntmps Try.f7) (Code.ops (Code.p1 (Code.p2 (Code.p2 (Code.p2 (Code.p1 (Code.p1 (Code.p2 (Code.p2 (Code.p1 (Code.p1 (Code.p2 (Code.p1 (Code.p2 (Code.p2 (Code.p2 (Code.p2 (Code.p2 (codeOf Try.f7))))))))))))))))))) 7 K58 [(3, r14), (4, (newP h_15)), (15, t0), (16, .int .i64 t16), (17, .int .i64 t17), (64, .bool t64)] [] h_60 := by
                  intro t64 h_60 hF
                  rw [e61] at hF
                  refine WL.nil (by kernel_rfl) ?_
                  refine Go.weaken (l' := [(3, r14), (4, (newP h_15)), (15, t0), (16, .int .i64 t16), (17, .int .i64 t17), (64, .bool t64)]) (Fr.sub_cons (by kernel_rfl) (Fr.sub_cons (by kernel_rfl) (Fr.sub_cons (by kernel_rfl) (Fr.sub_cons (by kernel_rfl) (Fr.sub_cons (by kernel_rfl) (Fr.sub_cons (by kernel_rfl) (Fr.sub_nil _))))))) ?_
                  refine n58 ?_
                  cases t64 with
                  | true =>
                    replace hF := ifB_t hF
                    refine W.cond_true (by kernel_rfl) (by kernel_rfl) ?_
                    refine W.seqK (by kernel_rfl) (fun K63 n63 e63 r63 p63 => ?_)
                    refine W.region (by kernel_rfl) ?_
                    refine WL.val (d := (some 2)) (v := .bool false) (h' := h_60) (by kernel_rfl) (by kernel_rfl) (by kernel_rfl) ?_
                    refine WL.nil (by kernel_rfl) ?_
                    refine Go.weaken (l' := [(2, .bool false)]) (Fr.sub_cons (by kernel_rfl) (Fr.sub_nil _)) ?_
                    refine n63 ?_
                    refine W.ret (by kernel_rfl) ?_
                    refine r33 ?_
                    refine r32 ?_
                    refine r27 ?_
                    refine r23 ?_
                    refine r20 ?_
                    obtain ⟨hF, hF2⟩ := ret_inj hF; subst hF; subst hF2
                    exact leave_of (rs := [.tmp 2]) (vs := [.bool false]) (by kernel_rfl) (res_tmp (by kernel_rfl) res_nil) (by kernel_rfl)
                  | false =>
                    replace hF := ifB_f hF
                    refine W.cond_false (by kernel_rfl) (by kernel_rfl) ?_
                    refine W.skip (by kernel_rfl) ?_
                    refine n33 ?_
                    refine n32 ?_
                    refine W.region (by kernel_rfl) ?_
                    replace hF := lett_some hF; obtain ⟨t65, e64, hF⟩ := hF
                    refine WL.val (d := (some 65)) (v := .int .i64 t65) (h' := h_60) (by kernel_rfl) (by kernel_rfl) (val_of (AV.int .i64) e64 (by kernel_rfl)) ?_
                    refine WL.val (d := (some 17)) (v := .int .i64 t65) (h' := h_60) (by kernel_rfl) (by kernel_rfl) (by kernel_rfl) ?_
                    refine WL.nil (by kernel_rfl) ?_
                    refine Go.weaken (l' := [(3, r14), (4, (newP h_15)), (15, t0), (16, .int .i64 t16), (17, .int .i64 t65)]) (Fr.sub_cons (by kernel_rfl) (Fr.sub_cons (by kernel_rfl) (Fr.sub_cons (by kernel_rfl) (Fr.sub_cons (by kernel_rfl) (Fr.sub_cons (by kernel_rfl) (Fr.sub_nil _)))))) ?_
                    refine n27 ?_
                    exact Go.weaken (Fr.sub_cons (by kernel_rfl) (Fr.sub_cons (by kernel_rfl) (Fr.sub_cons (by kernel_rfl) (Fr.sub_cons (by kernel_rfl) (Fr.sub_cons (by kernel_rfl) (Fr.sub_nil _)))))) (ih27 _ _ hF)
                cases t59 with
                | true =>
                  replace hF := ifB_t hF
                  replace hF := obind_some hF; obtain ⟨t61, e65, hF⟩ := hF
                  refine WL.val (d := (some 61)) (v := .agg t61) (h' := h_57) (by kernel_rfl) (by kernel_rfl) (Eq.trans (by kernel_rfl) (load_row (P := Try.prog) (h := h_57) (t := 36) (by kernel_rfl) (by kernel_rfl) e65)) ?_
                  refine WL.val (d := (some 62)) (v := .agg ([.int .i64 0, .int .i64 0] : List AV)) (h' := h_57) (by kernel_rfl) (by kernel_rfl) (by kernel_rfl) ?_
                  replace hF := obind_some hF; obtain ⟨t63, e66, hF⟩ := hF
                  replace hF := lett_some hF; obtain ⟨t63_67, e68, hF⟩ := hF
                  refine WL.val (d := (some 63)) (v := .bool t63_67) (h' := h_57) (by kernel_rfl) (by kernel_rfl) (val_of AV.bool e68 (Eq.trans (by kernel_rfl) (neq_other (P := Try.prog) (h := h_57) (t := 36) (lit := false) (by kernel_rfl) e66))) ?_
                  refine WL.val (d := (some 64)) (v := .bool t63_67) (h' := h_57) (by kernel_rfl) (by kernel_rfl) (by kernel_rfl) ?_
                  exact WL.weaken (Fr.sub_cons (by kernel_rfl) (Fr.sub_cons (by kernel_rfl) (Fr.sub_cons (by kernel_rfl) (Fr.sub_cons (by kernel_rfl) (Fr.sub_cons (by kernel_rfl) (Fr.sub_cons (by kernel_rfl) (Fr.sub_nil _))))))) (J62 _ _ hF)
                | false =>
                  replace hF := ifB_f hF
                  refine WL.not (d := (some 61)) (by kernel_rfl) (by kernel_rfl) ?_
                  refine WL.not (d := (some 62)) (by kernel_rfl) (by kernel_rfl) ?_
                  refine WL.not (d := (some 63)) (by kernel_rfl) (by kernel_rfl) ?_
                  refine WL.val (d := (some 64)) (v := .bool false) (h' := h_57) (by kernel_rfl) (by kernel_rfl) (by kernel_rfl) ?_
                  exact WL.weaken (Fr.sub_cons (by kernel_rfl) (Fr.sub_cons (by kernel_rfl) (Fr.sub_cons (by kernel_rfl) (Fr.sub_cons (by kernel_rfl) (Fr.sub_cons (by kernel_rfl) (Fr.sub_cons (by kernel_rfl) (Fr.sub_nil _))))))) (J62 _ _ hF)
              cases t48 with
              | true =>
                replace hF := ifB_t hF
                refine W.cond_true (by kernel_rfl) (by kernel_rfl) ?_
                refine W.seqK (by kernel_rfl) (fun K69 n69 e69 r69 p69 => ?_)
                refine W.region (by kernel_rfl) ?_
                refine WL.val (d := (some 49)) (v := .int .i64 t26) (h' := h_53) (by kernel_rfl) (by kernel_rfl) (by kernel_rfl) ?_
                replace hF := lett_some hF; obtain ⟨t50, e70, hF⟩ := hF
                refine WL.val (d := (some 50)) (v := .bool t50) (h' := h_53) (by kernel_rfl) (by kernel_rfl) (val_of AV.bool e70 (by kernel_rfl)) ?_
                refine WL.nil (by kernel_rfl) ?_
                refine Go.weaken (l' := [(3, r14), (4, (newP h_15)), (7, (newP h_39)), (8, .int .i64 t26), (15, t0), (16, .int .i64 t16), (17, .int .i64 t17), (50, .bool t50)]) (Fr.sub_cons (by kernel_rfl) (Fr.sub_cons (by kernel_rfl) (Fr.sub_cons (by kernel_rfl) (Fr.sub_cons (by kernel_rfl) (Fr.sub_cons (by kernel_rfl) (Fr.sub_cons (by kernel_rfl) (Fr.sub_cons (by kernel_rfl) (Fr.sub_cons (by kernel_rfl) (Fr.sub_nil _))))))))) ?_
                refine n69 ?_
                cases t50 with
                | true =>
                  replace hF := ifB_t hF
                  refine W.cond_true (by kernel_rfl) (by kernel_rfl) ?_
                  refine W.seqK (by kernel_rfl) (fun K71 n71 e71 r71 p71 => ?_)
                  refine W.region (by kernel_rfl) ?_
                  refine WL.val (d := (some 2)) (v := .bool false) (h' := h_53) (by kernel_rfl) (by kernel_rfl) (by kernel_rfl) ?_
                  refine WL.nil (by kernel_rfl) ?_
                  refine Go.weaken (l' := [(2, .bool false)]) (Fr.sub_cons (by kernel_rfl) (Fr.sub_nil _)) ?_
                  refine n71 ?_
                  refine W.ret (by kernel_rfl) ?_
                  refine r50 ?_
                  refine r49 ?_
                  refine r33 ?_
                  refine r32 ?_
                  refine r27 ?_
                  refine r23 ?_
                  refine r20 ?_
                  obtain ⟨hF, hF2⟩ := ret_inj hF; subst hF; subst hF2
                  exact leave_of (rs := [.tmp 2]) (vs := [.bool false]) (by kernel_rfl) (res_tmp (by kernel_rfl) res_nil) (by kernel_rfl)
                | false =>
                  replace hF := ifB_f hF
                  refine W.cond_false (by kernel_rfl) (by kernel_rfl) ?_
                  refine W.skip (by kernel_rfl) ?_
                  exact Go.weaken (Fr.sub_cons (by kernel_rfl) (Fr.sub_cons (by kernel_rfl) (Fr.sub_cons (by kernel_rfl) (Fr.sub_cons (by kernel_rfl) (Fr.sub_cons (by kernel_rfl) (Fr.sub_cons (by kernel_rfl) (Fr.sub_cons (by kernel_rfl) (Fr.sub_nil _)))))))) (J56 _ hF)
              | false =>
                replace hF := ifB_f hF
                refine W.cond_false (by kernel_rfl) (by kernel_rfl) ?_
                refine W.seqK (by kernel_rfl) (fun K72 n72 e72 r72 p72 => ?_)
                refine W.region (by kernel_rfl) ?_
                refine WL.val (d := (some 52)) (v := .int .i64 t20) (h' := h_53) (by kernel_rfl) (by kernel_rfl) (by kernel_rfl) ?_
                refine WL.val (d := (some 53)) (v := (AV.ptr (AHeap.next h_15) 0)) (h' := h_53) (by kernel_rfl) (by kernel_rfl) (by kernel_rfl) ?_
                replace hF := obind_some hF; obtain ⟨v54, e73, hF⟩ := hF
                replace hF := obind_some hF; obtain ⟨t54, c74, hF⟩ := hF
                have c74 := avInt_some c74
                subst c74
                refine WL.val (d := (some 54)) (v := .int .i64 t54) (h' := h_53) (by kernel_rfl) (by kernel_rfl) (Eq.trans (by kernel_rfl) (load_cell (P := Try.prog) (h := h_53) (t := 3) (by kernel_rfl) e73)) ?_
                replace hF := lett_some hF; obtain ⟨t55, e75, hF⟩ := hF
                refine WL.val (d := (some 55)) (v := .bool t55) (h' := h_53) (by kernel_rfl) (by kernel_rfl) (val_of AV.bool e75 (by kernel_rfl)) ?_
                refine WL.val (d := (some 51)) (v := .bool t55) (h' := h_53) (by kernel_rfl) (by kernel_rfl) (by kernel_rfl) ?_
                refine WL.nil (by kernel_rfl) ?_
                refine Go.weaken (l' := [(3, r14), (4, (newP h_15)), (6, .int .i64 t20), (7, (newP h_39)), (8, .int .i64 t26), (15, t0), (16, .int .i64 t16), (17, .int .i64 t17), (51, .bool t55)]) (Fr.sub_cons (by kernel_rfl) (Fr.sub_cons (by kernel_rfl) (Fr.sub_cons (by kernel_rfl) (Fr.sub_cons (by kernel_rfl) (Fr.sub_cons (by kernel_rfl) (Fr.sub_cons (by kernel_rfl) (Fr.sub_cons (by kernel_rfl) (Fr.sub_cons (by kernel_rfl) (Fr.sub_cons (by kernel_rfl) (Fr.sub_nil _)))))))))) ?_
                refine n72 ?_
                replace hF := lett_some hF; obtain ⟨k76, e76, hF⟩ := hF
                have J76 : ∀  (h_77 : AHeap), k76 h_77 = some (rR, hR) → Go w0 m0 (Func.ntmps Try.f7) (K50 .normal) [(3, r14), (4, (newP h_15)), (7, (newP h_39)), (8, .int .i64 t26), (15, t0), (16, .int .i64 t16), (17, .int .i64 t17)] [] h_77 := by
                  intro  h_77 hF
                  rw [e76] at hF
                  exact Go.weaken (Fr.sub_cons (by kernel_rfl) (Fr.sub_cons (by kernel_rfl) (Fr.sub_cons (by kernel_rfl) (Fr.sub_cons (by kernel_rfl) (Fr.sub_cons (by kernel_rfl) (Fr.sub_cons (by kernel_rfl) (Fr.sub_cons (by kernel_rfl) (Fr.sub_nil _)))))))) (J56 _ hF)
                cases t55 with
                | true =>
                  replace hF := ifB_t hF
                  refine W.cond_true (by kernel_rfl) (by kernel_rfl) ?_
                  refine W.seqK (by kernel_rfl) (fun K78 n78 e78 r78 p78 => ?_)
                  refine W.region (by kernel_rfl) ?_
                  refine WL.val (d := (some 56)) (v := .int .i64 t26) (h' := h_53) (by kernel_rfl) (by kernel_rfl) (by kernel_rfl) ?_
                  replace hF := lett_some hF; obtain ⟨t57, e79, hF⟩ := hF
                  refine WL.val (d := (some 57)) (v := .bool t57) (h' := h_53) (by kernel_rfl) (by kernel_rfl) (val_of AV.bool e79 (by kernel_rfl)) ?_
                  refine WL.nil (by kernel_rfl) ?_
                  refine Go.weaken (l' := [(3, r14), (4, (newP h_15)), (7, (newP h_39)), (8, .int .i64 t26), (15, t0), (16, .int .i64 t16), (17, .int .i64 t17), (57, .bool t57)]) (Fr.sub_cons (by kernel_rfl) (Fr.sub_cons (by kernel_rfl) (Fr.sub_cons (by kernel_rfl) (Fr.sub_cons (by kernel_rfl) (Fr.sub_cons (by kernel_rfl) (Fr.sub_cons (by kernel_rfl) (Fr.sub_cons (by kernel_rfl) (Fr.sub_cons (by kernel_rfl) (Fr.sub_nil _))))))))) ?_
                  refine n78 ?_
                  cases t57 with
                  | true =>
                    replace hF := ifB_t hF
                    refine W.cond_true (by kernel_rfl) (by kernel_rfl) ?_
                    refine W.seqK (by kernel_rfl) (fun K80 n80 e80 r80 p80 => ?_)
                    refine W.region (by kernel_rfl) ?_
                    refine WL.val (d := (some 2)) (v := .bool false) (h' := h_53) (by kernel_rfl) (by kernel_rfl) (by kernel_rfl) ?_
                    refine WL.nil (by kernel_rfl) ?_
                    refine Go.weaken (l' := [(2, .bool false)]) (Fr.sub_cons (by kernel_rfl) (Fr.sub_nil _)) ?_
                    refine n80 ?_
                    refine W.ret (by kernel_rfl) ?_
                    refine r50 ?_
                    refine r49 ?_
                    refine r33 ?_
                    refine r32 ?_
                    refine r27 ?_
                    refine r23 ?_
                    refine r20 ?_
                    obtain ⟨hF, hF2⟩ := ret_inj hF; subst hF; subst hF2
                    exact leave_of (rs := [.tmp 2]) (vs := [.bool false]) (by kernel_rfl) (res_tmp (by kernel_rfl) res_nil) (by kernel_rfl)
                  | false =>
                    replace hF := ifB_f hF
                    refine W.cond_false (by kernel_rfl) (by kernel_rfl) ?_
                    refine W.skip (by kernel_rfl) ?_
                    exact Go.weaken (Fr.sub_cons (by kernel_rfl) (Fr.sub_cons (by kernel_rfl) (Fr.sub_cons (by kernel_rfl) (Fr.sub_cons (by kernel_rfl) (Fr.sub_cons (by kernel_rfl) (Fr.sub_cons (by kernel_rfl) (Fr.sub_cons (by kernel_rfl) (Fr.sub_nil _)))))))) (J76 _ hF)
                | false =>
                  replace hF := ifB_f hF
                  refine W.cond_false (by kernel_rfl) (by kernel_rfl) ?_
                  refine W.seqK (by kernel_rfl) (fun K81 n81 e81 r81 p81 => ?_)
                  refine W.seqK (by kernel_rfl) (fun K82 n82 e82 r82 p82 => ?_)
                  refine W.region (by kernel_rfl) ?_
                  refine WL.val (d := (some 27)) (v := .int .i64 t26) (h' := h_53) (by kernel_rfl) (by kernel_rfl) (by kernel_rfl) ?_
                  replace hF := lett_some hF; obtain ⟨t28, e83, hF⟩ := hF
                  refine WL.val (d := (some 28)) (v := .bool t28) (h' := h_53) (by kernel_rfl) (by kernel_rfl) (val_of AV.bool e83 (by kernel_rfl)) ?_
                  refine WL.val (d := (some 29)) (v := .bool t28) (h' := h_53) (by kernel_rfl) (by kernel_rfl) (by kernel_rfl) ?_
                  replace hF := lett_some hF; obtain ⟨j34, e85, hF⟩ := hF
                  have J86 : ∀ (t34 : Bool) (h_84 : AHeap), j34 t34 h_84 = some (rR, hR) → WL Try.prog w0 m0 (Func.ntmps Try.f7) (Code.ops (Code.p1 (Code.p1 (Code.p2 (Code.p2 (Code.p2 (Code.p2 (Code.p1 (Code.p1 (Code.p2 (Code.p2 (Code.p1 (Code.p1 (Code.p2 (Code.p2 (Code.p1 (Code.p1 (Code.p2 (Code.p1 (Code.p2 (Code.p2 (Code.p2 (Code.p2 (Code.p2 (codeOf Try.f7))))))))))))))))))))))))) 8 K82 [(3, r14), (4, (newP h_15)), (7, (newP h_39)), (8, .int .i64 t26), (15, t0), (16, .int .i64 t16), (17, .int .i64 t17), (34, .bool t34)] [] h_84 := by
                    intro t34 h_84 hF
                    rw [e85] at hF
                    refine WL.val (d := (some 35)) (v := .bool t34) (h' := h_84) (by kernel_rfl) (by kernel_rfl) (by kernel_rfl) ?_
                    replace hF := lett_some hF; obtain ⟨j40, e88, hF⟩ := hF
                    have J89 : ∀ (t40 : Bool) (h_87 : AHeap), j40 t40 h_87 = some (rR, hR) → WL Try.prog w0 m0 (Func.ntmps Try.f7) (Code.ops (Code.p1 (Code.p1 (Code.p2 (Code.p2 (Code.p2 (Code.p2 (Code.p1 (Code.p1 (Code.p2 (Code.p2 (Code.p1 (Code.p1 (Code.p2 (Code.p2 (Code.p1 (Code.p1 (Code.p2 (Code.p1 (Code.p2 (Code.p2 (Code.p2 (Code.p2 (Code.p2 (codeOf Try.f7))))))))))))))))))))))))) 14 K82 [(3, r14), (4, (newP h_15)), (7, (newP h_39)), (8, .int .i64 t26), (15, t0), (16, .int .i64 t16), (17, .int .i64 t17), (40, .bool t40)] [] h_87 := by
                      intro t40 h_87 hF
                      rw [e88] at hF
                      refine WL.nil (by kernel_rfl) ?_
                      refine Go.weaken (l' := [(3, r14), (4, (newP h_15)), (7, (newP h_39)), (8, .int .i64 t26), (15, t0), (16, .int .i64 t16), (17, .int .i64 t17), (40, .bool t40)]) (Fr.sub_cons (by kernel_rfl) (Fr.sub_cons (by kernel_rfl) (Fr.sub_cons (by kernel_rfl) (Fr.sub_cons (by kernel_rfl) (Fr.sub_cons (by kernel_rfl) (Fr.sub_cons (by kernel_rfl) (Fr.sub_cons (by kernel_rfl) (Fr.sub_cons (by kernel_rfl) (Fr.sub_nil _))))))))) ?_
                      refine n82 ?_
                      cases t40 with
                      | true =>
                        replace hF := ifB_t hF
                        refine W.cond_true (by kernel_rfl) (by kernel_rfl) ?_
                        refine W.seqK (by kernel_rfl) (fun K90 n90 e90 r90 p90 => ?_)
                        refine W.region (by kernel_rfl) ?_
                        refine WL.val (d := (some 2)) (v := .bool false) (h' := h_87) (by kernel_rfl) (by kernel_rfl) (by kernel_rfl) ?_
                        refine WL.nil (by kernel_rfl) ?_
                        refine Go.weaken (l' := [(2, .bool false)]) (Fr.sub_cons (by kernel_rfl) (Fr.sub_nil _)) ?_
                        refine n90 ?_
                        refine W.ret (by kernel_rfl) ?_
                        refine r81 ?_
                        refine r50 ?_
                        refine r49 ?_
                        refine r33 ?_
                        refine r32 ?_
                        refine r27 ?_
                        refine r23 ?_
                        refine r20 ?_
                        obtain ⟨hF, hF2⟩ := ret_inj hF; subst hF; subst hF2
                        exact leave_of (rs := [.tmp 2]) (vs := [.bool false]) (by kernel_rfl) (res_tmp (by kernel_rfl) res_nil) (by kernel_rfl)
                      | false =>
                        replace hF := ifB_f hF
                        refine W.cond_false (by kernel_rfl) (by kernel_rfl) ?_
                        refine W.skip (by kernel_rfl) ?_
                        refine n81 ?_
                        refine W.region (by kernel_rfl) ?_
                        replace hF := obind_some hF; obtain ⟨t41, e91, hF⟩ := hF
                        refine WL.val (d := (some 41)) (v := .agg t41) (h' := h_87) (by kernel_rfl) (by kernel_rfl) (Eq.trans (by kernel_rfl) (load_row (P := Try.prog) (h := h_87) (t := 36) (by kernel_rfl) (by kernel_rfl) e91)) ?_
                        replace hF := obind_some hF; obtain ⟨h_92, e93, hF⟩ := hF
                        refine WL.eff (h' := h_92) (by kernel_rfl) (by kernel_rfl) (Eq.trans (by kernel_rfl) (store_row (P := Try.prog) (h := h_87) (t := 36) (v := (.agg t41)) (by kernel_rfl) (by kernel_rfl) e93)) ?_
                        refine WL.nil (by kernel_rfl) ?_
                        refine Go.weaken (l' := [(3, r14), (4, (newP h_15)), (7, (newP h_39)), (8, .int .i64 t26), (15, t0), (16, .int .i64 t16), (17, .int .i64 t17)]) (Fr.sub_cons (by kernel_rfl) (Fr.sub_cons (by kernel_rfl) (Fr.sub_cons (by kernel_rfl) (Fr.sub_cons (by kernel_rfl) (Fr.sub_cons (by kernel_rfl) (Fr.sub_cons (by kernel_rfl) (Fr.sub_cons (by kernel_rfl) (Fr.sub_nil _)))))))) ?_
                        exact Go.weaken (Fr.sub_cons (by kernel_rfl) (Fr.sub_cons (by kernel_rfl) (Fr.sub_cons (by kernel_rfl) (Fr.sub_cons (by kernel_rfl) (Fr.sub_cons (by kernel_rfl) (Fr.sub_cons (by kernel_rfl) (Fr.sub_cons (by kernel_rfl) (Fr.sub_nil _)))))))) (J76 _ hF)
                    cases t34 with
                    | true =>
                      replace hF := ifB_t hF
                      refine WL.not (d := (some 36)) (by kernel_rfl) (by kernel_rfl) ?_
                      refine WL.not (d := (some 37)) (by kernel_rfl) (by kernel_rfl) ?_
                      refine WL.not (d := (some 38)) (by kernel_rfl) (by kernel_rfl) ?_
                      refine WL.not (d := (some 39)) (by kernel_rfl) (by kernel_rfl) ?_
                      refine WL.val (d := (some 40)) (v := .bool true) (h' := h_84) (by kernel_rfl) (by kernel_rfl) (by kernel_rfl) ?_
                      exact WL.weaken (Fr.sub_cons (by kernel_rfl) (Fr.sub_cons (by kernel_rfl) (Fr.sub_cons (by kernel_rfl) (Fr.sub_cons (by kernel_rfl) (Fr.sub_cons (by kernel_rfl) (Fr.sub_cons (by kernel_rfl) (Fr.sub_cons (by kernel_rfl) (Fr.sub_cons (by kernel_rfl) (Fr.sub_nil _))))))))) (J89 _ _ hF)
                    | false =>
                      replace hF := ifB_f hF
                      replace hF := obind_some hF; obtain ⟨t36, e94, hF⟩ := hF
                      refine WL.val (d := (some 36)) (v := .agg t36) (h' := h_84) (by kernel_rfl) (by kernel_rfl) (Eq.trans (by kernel_rfl) (load_row (P := Try.prog) (h := h_84) (t := 36) (by kernel_rfl) (by kernel_rfl) e94)) ?_
                      replace hF := obind_some hF; obtain ⟨t37, e95, hF⟩ := hF
                      refine WL.val (d := (some 37)) (v := .agg t37) (h' := h_84) (by kernel_rfl) (by kernel_rfl) (Eq.trans (by kernel_rfl) (load_row (P := Try.prog) (h := h_84) (t := 36) (by kernel_rfl) (by kernel_rfl) e95)) ?_
                      replace hF := callN_some hF; obtain ⟨r38, h_96, e97, hF⟩ := hF
                      replace hF := obind_some hF; obtain ⟨t38, c98, hF⟩ := hF
                      have c98 := avBool_some c98
                      subst c98
                      refine WL.call (hc.ok w0) (d := (some 38)) (by kernel_rfl) (by kernel_rfl) (by kernel_rfl) e97 ?_
                      replace hF := lett_some hF; obtain ⟨t39, e99, hF⟩ := hF
                      refine WL.val (d := (some 39)) (v := .bool t39) (h' := h_96) (by kernel_rfl) (by kernel_rfl) (val_of AV.bool e99 (by kernel_rfl)) ?_
                      refine WL.val (d := (some 40)) (v := .bool t39) (h' := h_96) (by kernel_rfl) (by kernel_rfl) (by kernel_rfl) ?_
                      exact WL.weaken (Fr.sub_cons (by kernel_rfl) (Fr.sub_cons (by kernel_rfl) (Fr.sub_cons (by kernel_rfl) (Fr.sub_cons (by kernel_rfl) (Fr.sub_cons (by kernel_rfl) (Fr.sub_cons (by kernel_rfl) (Fr.sub_cons (by kernel_rfl) (Fr.sub_cons (by kernel_rfl) (Fr.sub_nil _))))))))) (J89 _ _ hF)
                  cases t28 with
                  | true =>
                    replace hF := ifB_t hF
                    refine WL.not (d := (some 30)) (by kernel_rfl) (by kernel_rfl) ?_
                    refine WL.not (d := (some 31)) (by kernel_rfl) (by kernel_rfl) ?_
                    refine WL.not (d := (some 32)) (by kernel_rfl) (by kernel_rfl) ?_
                    refine WL.not (d := (some 33)) (by kernel_rfl) (by kernel_rfl) ?_
                    refine WL.val (d := (some 34)) (v := .bool true) (h' := h_53) (by kernel_rfl) (by kernel_rfl) (by kernel_rfl) ?_
                    exact WL.weaken (Fr.sub_cons (by kernel_rfl) (Fr.sub_cons (by kernel_rfl) (Fr.sub_cons (by kernel_rfl) (Fr.sub_cons (by kernel_rfl) (Fr.sub_cons (by kernel_rfl) (Fr.sub_cons (by kernel_rfl) (Fr.sub_cons (by kernel_rfl) (Fr.sub_cons (by kernel_rfl) (Fr.sub_nil _))))))))) (J86 _ _ hF)
                  | false =>
                    replace hF := ifB_f hF
                    refine WL.val (d := (some 30)) (v := (AV.ptr (AHeap.next h_39) 0)) (h' := h_53) (by kernel_rfl) (by kernel_rfl) (by kernel_rfl) ?_
                    replace hF := obind_some hF; obtain ⟨v31, e100, hF⟩ := hF
                    replace hF := obind_some hF; obtain ⟨t31, c101, hF⟩ := hF
                    have c101 := avInt_some c101
                    subst c101
                    refine WL.val (d := (some 31)) (v := .int .i64 t31) (h' := h_53) (by kernel_rfl) (by kernel_rfl) (Eq.trans (by kernel_rfl) (load_cell (P := Try.prog) (h := h_53) (t := 3) (by kernel_rfl) e100)) ?_
                    refine WL.val (d := (some 32)) (v := .int .i64 t20) (h' := h_53) (by kernel_rfl) (by kernel_rfl) (by kernel_rfl) ?_
                    replace hF := lett_some hF; obtain ⟨t33, e102, hF⟩ := hF
                    refine WL.val (d := (some 33)) (v := .bool t33) (h' := h_53) (by kernel_rfl) (by kernel_rfl) (val_of AV.bool e102 (by kernel_rfl)) ?_
                    refine WL.val (d := (some 34)) (v := .bool t33) (h' := h_53) (by kernel_rfl) (by kernel_rfl) (by kernel_rfl) ?_
                    exact WL.weaken (Fr.sub_cons (by kernel_rfl) (Fr.sub_cons (by kernel_rfl) (Fr.sub_cons (by kernel_rfl) (Fr.sub_cons (by kernel_rfl) (Fr.sub_cons (by kernel_rfl) (Fr.sub_cons (by kernel_rfl) (Fr.sub_cons (by kernel_rfl) (Fr.sub_cons (by kernel_rfl) (Fr.sub_nil _))))))))) (J86 _ _ hF)
            cases t44 with
            | true =>
              replace hF := ifB_t hF
              refine WL.not (d := (some 46)) (by kernel_rfl) (by kernel_rfl) ?_
              refine WL.not (d := (some 47)) (by kernel_rfl) (by kernel_rfl) ?_
              refine WL.val (d := (some 48)) (v := .bool true) (h' := h_47) (by kernel_rfl) (by kernel_rfl) (by kernel_rfl) ?_
              exact WL.weaken (Fr.sub_cons (by kernel_rfl) (Fr.sub_cons (by kernel_rfl) (Fr.sub_cons (by kernel_rfl) (Fr.sub_cons (by kernel_rfl) (Fr.sub_cons (by kernel_rfl) (Fr.sub_cons (by kernel_rfl) (Fr.sub_cons (by kernel_rfl) (Fr.sub_cons (by kernel_rfl) (Fr.sub_cons (by kernel_rfl) (Fr.sub_nil _)))))))))) (J55 _ _ hF)
            | false =>
              replace hF := ifB_f hF
              refine WL.val (d := (some 46)) (v := .int .i64 t20) (h' := h_47) (by kernel_rfl) (by kernel_rfl) (by kernel_rfl) ?_
              replace hF := lett_some hF; obtain ⟨t47, e103, hF⟩ := hF
              refine WL.val (d := (some 47)) (v := .bool t47) (h' := h_47) (by kernel_rfl) (by kernel_rfl) (val_of AV.bool e103 (by kernel_rfl)) ?_
              refine WL.val (d := (some 48)) (v := .bool t47) (h' := h_47) (by kernel_rfl) (by kernel_rfl) (by kernel_rfl) ?_
              exact WL.weaken (Fr.sub_cons (by kernel_rfl) (Fr.sub_cons (by kernel_rfl) (Fr.sub_cons (by kernel_rfl) (Fr.sub_cons (by kernel_rfl) (Fr.sub_cons (by kernel_rfl) (Fr.sub_cons (by kernel_rfl) (Fr.sub_cons (by kernel_rfl) (Fr.sub_cons (by kernel_rfl) (Fr.sub_cons (by kernel_rfl) (Fr.sub_nil _)))))))))) (J55 _ _ hF)
          | false =>
            replace hF := ifB_f hF
            refine W.cond_false (by kernel_rfl) (by kernel_rfl) ?_
            refine W.exit (by kernel_rfl) ?_
            refine e31 ?_
            refine e27 ?_
            refine s23 (by kernel_rfl) ?_
            exact Go.weaken (Fr.sub_nil _) (J24 _ hF)
      exact Go.weaken (Fr.sub_cons (by kernel_rfl) (Fr.sub_cons (by kernel_rfl) (Fr.sub_cons (by kernel_rfl) (Fr.sub_cons (by kernel_rfl) (Fr.sub_cons (by kernel_rfl) (Fr.sub_nil _)))))) (L27 _ _ _ hF)
noncomputable def law20_LeaseRises_fn (call : CallF) (n : Nat) : FnT := fun args h => match args with
  | [x0] => law20_LeaseRises call n x0 h
  | _ => none
set_option maxRecDepth 100000 in
theorem law20_LeaseRises_fn_eq (call : CallF) (n : Nat) (t0 : AV) (h : AHeap) : law20_LeaseRises_fn call n [t0] h = law20_LeaseRises call n t0 h :=
  rfl
theorem law20_LeaseRises_holds {call : CallF} (hc : SaysAll Try.prog call) (n : Nat) : Holds Try.prog 7 (law20_LeaseRises_fn call n) := by
  intro args h r h2 e
  unfold law20_LeaseRises_fn at e
  split at e
  · exact law20_LeaseRises_ok hc e
  · cases e

noncomputable def lease_Issuer_Next (_ : CallF) (_ : Nat) (t0 : AV) (t1 : Int) (h : AHeap) : R :=
  lett (newH h 36 [.int .i64 0, .int .i64 0]) fun h_2 =>
  outK (opBin Try.prog h_2 .eql 33 true (some t0) (some AV.nilp)) fun v8 h_7 =>
  obind (avBool v8) fun t8 =>
  ifB t8
  (
    obind (stRow h_7 2 ([.int .i64 0, .int .i64 0] : List AV) (newP h)) fun h_11 =>
    obind (ldRow h_11 2 (newP h)) fun w4 =>
    some (.ret (.tup [.agg w4, .int .i64 1]), h_11))
  (
    lett (decide (t1 < 1)) fun (t12 : Bool) =>
    lett (fun (t16 : Bool) (h_16 : AHeap) =>
      ifB t16
      (
        obind (stRow h_16 2 ([.int .i64 0, .int .i64 0] : List AV) (newP h)) fun h_20 =>
        obind (ldRow h_20 2 (newP h)) fun w4_23 =>
        some (.ret (.tup [.agg w4_23, .int .i64 2]), h_20))
      (
        obind (nilC t0) fun t21 =>
        obind (fldP 0 t21) fun t22 =>
        obind (fldP 0 t22) fun t23 =>
        obind (ldCell h_16 t23) fun v24 =>
        obind (avInt .i64 v24) fun t24 =>
        lett (decide (t1 < t24)) fun (t25 : Bool) =>
        lett (fun (t42 : Bool) (h_31 : AHeap) =>
          ifB t42
          (
            obind (stRow h_31 2 ([.int .i64 0, .int .i64 0] : List AV) (newP h)) fun h_35 =>
            obind (ldRow h_35 2 (newP h)) fun w4_38 =>
            some (.ret (.tup [.agg w4_38, .int .i64 5]), h_35))
          (
            obind (nilC t0) fun t47 =>
            obind (fldP 0 t47) fun t48 =>
            obind (fldP 0 t48) fun t49 =>
            obind (ldCell h_31 t49) fun v50 =>
            obind (avInt .i64 v50) fun t50 =>
            lett (decide (t1 > t50)) fun (t51 : Bool) =>
            lett (fun  (h_47 : AHeap) =>
              obind (nilC t0) fun t58 =>
              obind (fldP 0 t58) fun t59 =>
              obind (fldP 1 t59) fun t60 =>
              obind (ldCell h_47 t60) fun v61 =>
              obind (avInt .i64 v61) fun t61 =>
              lett (IntKind.i64.wrap (t61 + 1)) fun (t62 : Int) =>
              obind (nilC t0) fun t63 =>
              obind (fldP 0 t63) fun t64 =>
              obind (fldP 1 t64) fun t65 =>
              obind (stRow h_47 1 [.int .i64 t62] t65) fun h_58 =>
              obind (nilC t0) fun t67 =>
              obind (fldP 0 t67) fun t68 =>
              obind (ldRow h_58 2 t68) fun t69 =>
              obind (stRow h_58 2 t69 (newP h)) fun h_64 =>
              obind (ldRow h_64 2 (newP h)) fun w4_67 =>
              some (.ret (.tup [.agg w4_67, .int .i64 0]), h_64)) fun k46 =>
            ifB t51
            (
              obind (nilC t0) fun t55 =>
              obind (fldP 0 t55) fun t56 =>
              obind (stRow h_31 2 ([.int .i64 t1, .int .i64 0] : List AV) t56) fun h_70 =>
              k46 h_70)
            (
              k46 h_31))) fun j42 =>
        ifB t25
        (
          j42 true h_16)
        (
          obind (nilC t0) fun t29 =>
          obind (fldP 0 t29) fun t30 =>
          obind (fldP 0 t30) fun t31 =>
          obind (ldCell h_16 t31) fun v32 =>
          obind (avInt .i64 v32) fun t32 =>
          lett ((t1 : Int) == t32) fun (t33 : Bool) =>
          lett (fun (t41 : Bool) (h_78 : AHeap) =>
            j42 t41 h_78) fun j41 =>
          ifB t33
          (
            obind (nilC t0) fun t36 =>
            obind (fldP 0 t36) fun t37 =>
            obind (fldP 1 t37) fun t38 =>
            obind (ldCell h_16 t38) fun v39 =>
            obind (avInt .i64 v39) fun t39 =>
            lett (decide (t39 ≥ 1048576)) fun (t40 : Bool) =>
            j41 t40 h_16)
          (
            j41 false h_16)))) fun j16 =>
    ifB t12
    (
      j16 true h_7)
    (
      lett (decide (t1 > 1099511627776)) fun (t15 : Bool) =>
      j16 t15 h_7))
set_option maxHeartbeats 4000000 in
set_option maxRecDepth 20000 in
theorem lease_Issuer_Next_ok {call : CallF} (_ : SaysAll Try.prog call) {n : Nat} {t0 : AV} {t1 : Int} {h : AHeap} {rR : ARes} {hR : AHeap} (hF : lease_Issuer_Next call n t0 t1 h = some (rR, hR)) : Says Try.prog 11 [t0, .int .i64 t1] h rR hR := by
  unfold lease_Issuer_Next at hF
  refine says_of (fn := Try.f11) Try.func11 (c := codeOf Try.f11) (by kernel_rfl) (by kernel_rfl) (fun w0 m0 => ?_)
  refine W.weaken (l' := [(0, t0), (1, .int .i64 t1)]) (Fr.sub_cons (by kernel_rfl) (Fr.sub_cons (by kernel_rfl) (Fr.sub_nil _))) ?_
  refine W.seqK (by kernel_rfl) (fun K1 n1 e1 r1 p1 => ?_)
  refine W.region (by kernel_rfl) ?_
  replace hF := lett_some hF; obtain ⟨h_2, e3, hF⟩ := hF
  refine WL.val (d := (some 4)) (v := (newP h)) (h' := h_2) (by kernel_rfl) (by kernel_rfl) (val_ofH e3 (by kernel_rfl)) ?_
  refine WL.val (d := (some 5)) (v := .int .i64 0) (h' := h_2) (by kernel_rfl) (by kernel_rfl) (by kernel_rfl) ?_
  refine WL.nil (by kernel_rfl) ?_
  refine Go.weaken (l' := [(0, t0), (1, .int .i64 t1), (4, (newP h))]) (Fr.sub_cons (by kernel_rfl) (Fr.sub_cons (by kernel_rfl) (Fr.sub_cons (by kernel_rfl) (Fr.sub_nil _)))) ?_
  refine n1 ?_
  refine W.seqK (by kernel_rfl) (fun K4 n4 e4 r4 p4 => ?_)
  refine W.blockK (by kernel_rfl) (fun K5 n5 s5 o5 r5 p5 => ?_)
  refine W.seqK (by kernel_rfl) (fun K6 n6 e6 r6 p6 => ?_)
  refine W.region (by kernel_rfl) ?_
  refine WL.val (d := (some 7)) (v := t0) (h' := h_2) (by kernel_rfl) (by kernel_rfl) (by kernel_rfl) ?_
  replace hF := outK_some hF; obtain ⟨v8, h_7, e8, hF⟩ := hF
  replace hF := obind_some hF; obtain ⟨t8, c9, hF⟩ := hF
  have c9 := avBool_some c9
  subst c9
  refine WL.val (d := (some 8)) (v := .bool t8) (h' := h_7) (by kernel_rfl) (by kernel_rfl) (Eq.trans (by kernel_rfl) e8) ?_
  refine WL.val (d := (some 6)) (v := .bool t8) (h' := h_7) (by kernel_rfl) (by kernel_rfl) (by kernel_rfl) ?_
  refine WL.nil (by kernel_rfl) ?_
  refine Go.weaken (l' := [(0, t0), (1, .int .i64 t1), (4, (newP h)), (6, .bool t8)]) (Fr.sub_cons (by kernel_rfl) (Fr.sub_cons (by kernel_rfl) (Fr.sub_cons (by kernel_rfl) (Fr.sub_cons (by kernel_rfl) (Fr.sub_nil _))))) ?_
  refine n6 ?_
  cases t8 with
  | true =>
    replace hF := ifB_t hF
    refine W.cond_true (by kernel_rfl) (by kernel_rfl) ?_
    refine W.seqK (by kernel_rfl) (fun K10 n10 e10 r10 p10 => ?_)
    refine W.region (by kernel_rfl) ?_
    refine WL.val (d := (some 9)) (v := .agg ([.int .i64 0, .int .i64 0] : List AV)) (h' := h_7) (by kernel_rfl) (by kernel_rfl) (by kernel_rfl) ?_
    replace hF := obind_some hF; obtain ⟨h_11, e12, hF⟩ := hF
    refine WL.eff (h' := h_11) (by kernel_rfl) (by kernel_rfl) (Eq.trans (by kernel_rfl) (store_row (P := Try.prog) (h := h_7) (t := 36) (v := (.agg ([.int .i64 0, .int .i64 0] : List AV))) (by kernel_rfl) (by kernel_rfl) e12)) ?_
    refine WL.val (d := (some 5)) (v := .int .i64 1) (h' := h_11) (by kernel_rfl) (by kernel_rfl) (by kernel_rfl) ?_
    refine WL.nil (by kernel_rfl) ?_
    refine Go.weaken (l' := [(4, (newP h)), (5, .int .i64 1)]) (Fr.sub_cons (by kernel_rfl) (Fr.sub_cons (by kernel_rfl) (Fr.sub_nil _))) ?_
    refine n10 ?_
    refine W.ret (by kernel_rfl) ?_
    refine r5 ?_
    refine r4 ?_
    replace hF := obind_some hF; obtain ⟨w4, e13, hF⟩ := hF
    obtain ⟨hF, hF2⟩ := ret_inj hF; subst hF; subst hF2
    exact leave_of (rs := [.cell 4 36, .tmp 5]) (vs := [.agg w4, .int .i64 1]) (by kernel_rfl) (res_cell (by kernel_rfl) (load_row (P := Try.prog) (h := h_11) (t := 36) (by kernel_rfl) (by kernel_rfl) e13) (res_tmp (by kernel_rfl) res_nil)) (by kernel_rfl)
  | false =>
    replace hF := ifB_f hF
    refine W.cond_false (by kernel_rfl) (by kernel_rfl) ?_
    refine W.seqK (by kernel_rfl) (fun K14 n14 e14 r14 p14 => ?_)
    refine W.region (by kernel_rfl) ?_
    refine WL.val (d := (some 11)) (v := .int .i64 t1) (h' := h_7) (by kernel_rfl) (by kernel_rfl) (by kernel_rfl) ?_
    replace hF := lett_some hF; obtain ⟨t12, e15, hF⟩ := hF
    refine WL.val (d := (some 12)) (v := .bool t12) (h' := h_7) (by kernel_rfl) (by kernel_rfl) (val_of AV.bool e15 (by kernel_rfl)) ?_
    refine WL.val (d := (some 13)) (v := .bool t12) (h' := h_7) (by kernel_rfl) (by kernel_rfl) (by kernel_rfl) ?_
    replace hF := lett_some hF; obtain ⟨j16, e17, hF⟩ := hF
    have J18 : ∀ (t16 : Bool) (h_16 : AHeap), j16 t16 h_16 = some (rR, hR) → WL Try.prog w0 m0 (Func.ntmps Try.f11) (Code.ops (Code.p1 (Code.p2 (Code.p2 (Code.p1 (Code.p1 (Code.p2 (codeOf Try.f11)))))))) 6 K14 [(0, t0), (1, .int .i64 t1), (4, (newP h)), (16, .bool t16)] [] h_16 := by
      intro t16 h_16 hF
      rw [e17] at hF
      refine WL.val (d := (some 10)) (v := .bool t16) (h' := h_16) (by kernel_rfl) (by kernel_rfl) (by kernel_rfl) ?_
      refine WL.nil (by kernel_rfl) ?_
      refine Go.weaken (l' := [(0, t0), (1, .int .i64 t1), (4, (newP h)), (10, .bool t16)]) (Fr.sub_cons (by kernel_rfl) (Fr.sub_cons (by kernel_rfl) (Fr.sub_cons (by kernel_rfl) (Fr.sub_cons (by kernel_rfl) (Fr.sub_nil _))))) ?_
      refine n14 ?_
      cases t16 with
      | true =>
        replace hF := ifB_t hF
        refine W.cond_true (by kernel_rfl) (by kernel_rfl) ?_
        refine W.seqK (by kernel_rfl) (fun K19 n19 e19 r19 p19 => ?_)
        refine W.region (by kernel_rfl) ?_
        refine WL.val (d := (some 17)) (v := .agg ([.int .i64 0, .int .i64 0] : List AV)) (h' := h_16) (by kernel_rfl) (by kernel_rfl) (by kernel_rfl) ?_
        replace hF := obind_some hF; obtain ⟨h_20, e21, hF⟩ := hF
        refine WL.eff (h' := h_20) (by kernel_rfl) (by kernel_rfl) (Eq.trans (by kernel_rfl) (store_row (P := Try.prog) (h := h_16) (t := 36) (v := (.agg ([.int .i64 0, .int .i64 0] : List AV))) (by kernel_rfl) (by kernel_rfl) e21)) ?_
        refine WL.val (d := (some 5)) (v := .int .i64 2) (h' := h_20) (by kernel_rfl) (by kernel_rfl) (by kernel_rfl) ?_
        refine WL.nil (by kernel_rfl) ?_
        refine Go.weaken (l' := [(4, (newP h)), (5, .int .i64 2)]) (Fr.sub_cons (by kernel_rfl) (Fr.sub_cons (by kernel_rfl) (Fr.sub_nil _))) ?_
        refine n19 ?_
        refine W.ret (by kernel_rfl) ?_
        refine r5 ?_
        refine r4 ?_
        replace hF := obind_some hF; obtain ⟨w4_23, e22, hF⟩ := hF
        obtain ⟨hF, hF2⟩ := ret_inj hF; subst hF; subst hF2
        exact leave_of (rs := [.cell 4 36, .tmp 5]) (vs := [.agg w4_23, .int .i64 2]) (by kernel_rfl) (res_cell (by kernel_rfl) (load_row (P := Try.prog) (h := h_20) (t := 36) (by kernel_rfl) (by kernel_rfl) e22) (res_tmp (by kernel_rfl) res_nil)) (by kernel_rfl)
      | false =>
        replace hF := ifB_f hF
        refine W.cond_false (by kernel_rfl) (by kernel_rfl) ?_
        refine W.seqK (by kernel_rfl) (fun K24 n24 e24 r24 p24 => ?_)
        refine W.region (by kernel_rfl) ?_
        refine WL.val (d := (some 19)) (v := .int .i64 t1) (h' := h_16) (by kernel_rfl) (by kernel_rfl) (by kernel_rfl) ?_
        refine WL.val (d := (some 20)) (v := t0) (h' := h_16) (by kernel_rfl) (by kernel_rfl) (by kernel_rfl) ?_
        replace hF := obind_some hF; obtain ⟨t21, e25, hF⟩ := hF
        refine WL.val (d := (some 21)) (v := t21) (h' := h_16) (by kernel_rfl) (by kernel_rfl) (Eq.trans (by kernel_rfl) (nil_chk (h := h_16) e25)) ?_
        replace hF := obind_some hF; obtain ⟨t22, e26, hF⟩ := hF
        refine WL.val (d := (some 22)) (v := t22) (h' := h_16) (by kernel_rfl) (by kernel_rfl) (Eq.trans (by kernel_rfl) (field_ptr (P := Try.prog) (h := h_16) (s := 56) (f := 0) (by kernel_rfl) e26)) ?_
        replace hF := obind_some hF; obtain ⟨t23, e27, hF⟩ := hF
        refine WL.val (d := (some 23)) (v := t23) (h' := h_16) (by kernel_rfl) (by kernel_rfl) (Eq.trans (by kernel_rfl) (field_ptr (P := Try.prog) (h := h_16) (s := 36) (f := 0) (by kernel_rfl) e27)) ?_
        replace hF := obind_some hF; obtain ⟨v24, e28, hF⟩ := hF
        replace hF := obind_some hF; obtain ⟨t24, c29, hF⟩ := hF
        have c29 := avInt_some c29
        subst c29
        refine WL.val (d := (some 24)) (v := .int .i64 t24) (h' := h_16) (by kernel_rfl) (by kernel_rfl) (Eq.trans (by kernel_rfl) (load_cell (P := Try.prog) (h := h_16) (t := 3) (by kernel_rfl) e28)) ?_
        replace hF := lett_some hF; obtain ⟨t25, e30, hF⟩ := hF
        refine WL.val (d := (some 25)) (v := .bool t25) (h' := h_16) (by kernel_rfl) (by kernel_rfl) (val_of AV.bool e30 (by kernel_rfl)) ?_
        refine WL.val (d := (some 26)) (v := .bool t25) (h' := h_16) (by kernel_rfl) (by kernel_rfl) (by kernel_rfl) ?_
        replace hF := lett_some hF; obtain ⟨j42, e32, hF⟩ := hF
        have J33 : ∀ (t42 : Bool) (h_31 : AHeap), j42 t42 h_31 = some (rR, hR) → WL Try.prog w0 m0 (Func.ntmps Try.f11) (Code.ops (Code.p1 (Code.p2 (Code.p2 (Code.p2 (Code.p2 (Code.p1 (Code.p1 (Code.p2 (codeOf Try.f11)))))))))) 24 K24 [(0, t0), (1, .int .i64 t1), (4, (newP h)), (42, .bool t42)] [] h_31 := by
          intro t42 h_31 hF
          rw [e32] at hF
          refine WL.val (d := (some 18)) (v := .bool t42) (h' := h_31) (by kernel_rfl) (by kernel_rfl) (by kernel_rfl) ?_
          refine WL.nil (by kernel_rfl) ?_
          refine Go.weaken (l' := [(0, t0), (1, .int .i64 t1), (4, (newP h)), (18, .bool t42)]) (Fr.sub_cons (by kernel_rfl) (Fr.sub_cons (by kernel_rfl) (Fr.sub_cons (by kernel_rfl) (Fr.sub_cons (by kernel_rfl) (Fr.sub_nil _))))) ?_
          refine n24 ?_
          cases t42 with
          | true =>
            replace hF := ifB_t hF
            refine W.cond_true (by kernel_rfl) (by kernel_rfl) ?_
            refine W.seqK (by kernel_rfl) (fun K34 n34 e34 r34 p34 => ?_)
            refine W.region (by kernel_rfl) ?_
            refine WL.val (d := (some 43)) (v := .agg ([.int .i64 0, .int .i64 0] : List AV)) (h' := h_31) (by kernel_rfl) (by kernel_rfl) (by kernel_rfl) ?_
            replace hF := obind_some hF; obtain ⟨h_35, e36, hF⟩ := hF
            refine WL.eff (h' := h_35) (by kernel_rfl) (by kernel_rfl) (Eq.trans (by kernel_rfl) (store_row (P := Try.prog) (h := h_31) (t := 36) (v := (.agg ([.int .i64 0, .int .i64 0] : List AV))) (by kernel_rfl) (by kernel_rfl) e36)) ?_
            refine WL.val (d := (some 5)) (v := .int .i64 5) (h' := h_35) (by kernel_rfl) (by kernel_rfl) (by kernel_rfl) ?_
            refine WL.nil (by kernel_rfl) ?_
            refine Go.weaken (l' := [(4, (newP h)), (5, .int .i64 5)]) (Fr.sub_cons (by kernel_rfl) (Fr.sub_cons (by kernel_rfl) (Fr.sub_nil _))) ?_
            refine n34 ?_
            refine W.ret (by kernel_rfl) ?_
            refine r5 ?_
            refine r4 ?_
            replace hF := obind_some hF; obtain ⟨w4_38, e37, hF⟩ := hF
            obtain ⟨hF, hF2⟩ := ret_inj hF; subst hF; subst hF2
            exact leave_of (rs := [.cell 4 36, .tmp 5]) (vs := [.agg w4_38, .int .i64 5]) (by kernel_rfl) (res_cell (by kernel_rfl) (load_row (P := Try.prog) (h := h_35) (t := 36) (by kernel_rfl) (by kernel_rfl) e37) (res_tmp (by kernel_rfl) res_nil)) (by kernel_rfl)
          | false =>
            replace hF := ifB_f hF
            refine W.cond_false (by kernel_rfl) (by kernel_rfl) ?_
            refine W.seqK (by kernel_rfl) (fun K39 n39 e39 r39 p39 => ?_)
            refine W.region (by kernel_rfl) ?_
            refine WL.val (d := (some 45)) (v := .int .i64 t1) (h' := h_31) (by kernel_rfl) (by kernel_rfl) (by kernel_rfl) ?_
            refine WL.val (d := (some 46)) (v := t0) (h' := h_31) (by kernel_rfl) (by kernel_rfl) (by kernel_rfl) ?_
            replace hF := obind_some hF; obtain ⟨t47, e40, hF⟩ := hF
            refine WL.val (d := (some 47)) (v := t47) (h' := h_31) (by kernel_rfl) (by kernel_rfl) (Eq.trans (by kernel_rfl) (nil_chk (h := h_31) e40)) ?_
            replace hF := obind_some hF; obtain ⟨t48, e41, hF⟩ := hF
            refine WL.val (d := (some 48)) (v := t48) (h' := h_31) (by kernel_rfl) (by kernel_rfl) (Eq.trans (by kernel_rfl) (field_ptr (P := Try.prog) (h := h_31) (s := 56) (f := 0) (by kernel_rfl) e41)) ?_
            replace hF := obind_some hF; obtain ⟨t49, e42, hF⟩ := hF
            refine WL.val (d := (some 49)) (v := t49) (h' := h_31) (by kernel_rfl) (by kernel_rfl) (Eq.trans (by kernel_rfl) (field_ptr (P := Try.prog) (h := h_31) (s := 36) (f := 0) (by kernel_rfl) e42)) ?_
            replace hF := obind_some hF; obtain ⟨v50, e43, hF⟩ := hF
            replace hF := obind_some hF; obtain ⟨t50, c44, hF⟩ := hF
            have c44 := avInt_some c44
            subst c44
            refine WL.val (d := (some 50)) (v := .int .i64 t50) (h' := h_31) (by kernel_rfl) (by kernel_rfl) (Eq.trans (by kernel_rfl) (load_cell (P := Try.prog) (h := h_31) (t := 3) (by kernel_rfl) e43)) ?_
            replace hF := lett_some hF; obtain ⟨t51, e45, hF⟩ := hF
            refine WL.val (d := (some 51)) (v := .bool t51) (h' := h_31) (by kernel_rfl) (by kernel_rfl) (val_of AV.bool e45 (by kernel_rfl)) ?_
            refine WL.val (d := (some 44)) (v := .bool t51) (h' := h_31) (by kernel_rfl) (by kernel_rfl) (by kernel_rfl) ?_
            refine WL.nil (by kernel_rfl) ?_
            refine Go.weaken (l' := [(0, t0), (1, .int .i64 t1), (4, (newP h)), (44, .bool t51)]) (Fr.sub_cons (by kernel_rfl) (Fr.sub_cons (by kernel_rfl) (Fr.sub_cons (by kernel_rfl) (Fr.sub_cons (by kernel_rfl) (Fr.sub_nil _))))) ?_
            refine n39 ?_
            replace hF := lett_some hF; obtain ⟨k46, e46, hF⟩ := hF
            have J46 : ∀  (h_47 : AHeap), k46 h_47 = some (rR, hR) → Go w0 m0 (Func.ntmps Try.f11) (K5 .normal) [(0, t0), (4, (newP h))] [] h_47 := by
              intro  h_47 hF
              rw [e46] at hF
              refine n5 ?_
              refine n4 ?_
              refine W.seqK (by kernel_rfl) (fun K48 n48 e48 r48 p48 => ?_)
              refine W.region (by kernel_rfl) ?_
              refine WL.val (d := (some 57)) (v := t0) (h' := h_47) (by kernel_rfl) (by kernel_rfl) (by kernel_rfl) ?_
              replace hF := obind_some hF; obtain ⟨t58, e49, hF⟩ := hF
              refine WL.val (d := (some 58)) (v := t58) (h' := h_47) (by kernel_rfl) (by kernel_rfl) (Eq.trans (by kernel_rfl) (nil_chk (h := h_47) e49)) ?_
              replace hF := obind_some hF; obtain ⟨t59, e50, hF⟩ := hF
              refine WL.val (d := (some 59)) (v := t59) (h' := h_47) (by kernel_rfl) (by kernel_rfl) (Eq.trans (by kernel_rfl) (field_ptr (P := Try.prog) (h := h_47) (s := 56) (f := 0) (by kernel_rfl) e50)) ?_
              replace hF := obind_some hF; obtain ⟨t60, e51, hF⟩ := hF
              refine WL.val (d := (some 60)) (v := t60) (h' := h_47) (by kernel_rfl) (by kernel_rfl) (Eq.trans (by kernel_rfl) (field_ptr (P := Try.prog) (h := h_47) (s := 36) (f := 1) (by kernel_rfl) e51)) ?_
              replace hF := obind_some hF; obtain ⟨v61, e52, hF⟩ := hF
              replace hF := obind_some hF; obtain ⟨t61, c53, hF⟩ := hF
              have c53 := avInt_some c53
              subst c53
              refine WL.val (d := (some 61)) (v := .int .i64 t61) (h' := h_47) (by kernel_rfl) (by kernel_rfl) (Eq.trans (by kernel_rfl) (load_cell (P := Try.prog) (h := h_47) (t := 3) (by kernel_rfl) e52)) ?_
              replace hF := lett_some hF; obtain ⟨t62, e54, hF⟩ := hF
              refine WL.val (d := (some 62)) (v := .int .i64 t62) (h' := h_47) (by kernel_rfl) (by kernel_rfl) (val_of (AV.int .i64) e54 (by kernel_rfl)) ?_
              replace hF := obind_some hF; obtain ⟨t63, e55, hF⟩ := hF
              refine WL.val (d := (some 63)) (v := t63) (h' := h_47) (by kernel_rfl) (by kernel_rfl) (Eq.trans (by kernel_rfl) (nil_chk (h := h_47) e55)) ?_
              replace hF := obind_some hF; obtain ⟨t64, e56, hF⟩ := hF
              refine WL.val (d := (some 64)) (v := t64) (h' := h_47) (by kernel_rfl) (by kernel_rfl) (Eq.trans (by kernel_rfl) (field_ptr (P := Try.prog) (h := h_47) (s := 56) (f := 0) (by kernel_rfl) e56)) ?_
              replace hF := obind_some hF; obtain ⟨t65, e57, hF⟩ := hF
              refine WL.val (d := (some 65)) (v := t65) (h' := h_47) (by kernel_rfl) (by kernel_rfl) (Eq.trans (by kernel_rfl) (field_ptr (P := Try.prog) (h := h_47) (s := 36) (f := 1) (by kernel_rfl) e57)) ?_
              replace hF := obind_some hF; obtain ⟨h_58, e59, hF⟩ := hF
              refine WL.eff (h' := h_58) (by kernel_rfl) (by kernel_rfl) (Eq.trans (by kernel_rfl) (store_row (P := Try.prog) (h := h_47) (t := 3) (v := (.int .i64 t62)) (by kernel_rfl) (by kernel_rfl) e59)) ?_
              refine WL.nil (by kernel_rfl) ?_
              refine Go.weaken (l' := [(0, t0), (4, (newP h))]) (Fr.sub_cons (by kernel_rfl) (Fr.sub_cons (by kernel_rfl) (Fr.sub_nil _))) ?_
              refine n48 ?_
              refine W.seqK (by kernel_rfl) (fun K60 n60 e60 r60 p60 => ?_)
              refine W.region (by kernel_rfl) ?_
              refine WL.val (d := (some 66)) (v := t0) (h' := h_58) (by kernel_rfl) (by kernel_rfl) (by kernel_rfl) ?_
              replace hF := obind_some hF; obtain ⟨t67, e61, hF⟩ := hF
              refine WL.val (d := (some 67)) (v := t67) (h' := h_58) (by kernel_rfl) (by kernel_rfl) (Eq.trans (by kernel_rfl) (nil_chk (h := h_58) e61)) ?_
              replace hF := obind_some hF; obtain ⟨t68, e62, hF⟩ := hF
              refine WL.val (d := (some 68)) (v := t68) (h' := h_58) (by kernel_rfl) (by kernel_rfl) (Eq.trans (by kernel_rfl) (field_ptr (P := Try.prog) (h := h_58) (s := 56) (f := 0) (by kernel_rfl) e62)) ?_
              replace hF := obind_some hF; obtain ⟨t69, e63, hF⟩ := hF
              refine WL.val (d := (some 69)) (v := .agg t69) (h' := h_58) (by kernel_rfl) (by kernel_rfl) (Eq.trans (by kernel_rfl) (load_row (P := Try.prog) (h := h_58) (t := 36) (by kernel_rfl) (by kernel_rfl) e63)) ?_
              replace hF := obind_some hF; obtain ⟨h_64, e65, hF⟩ := hF
              refine WL.eff (h' := h_64) (by kernel_rfl) (by kernel_rfl) (Eq.trans (by kernel_rfl) (store_row (P := Try.prog) (h := h_58) (t := 36) (v := (.agg t69)) (by kernel_rfl) (by kernel_rfl) e65)) ?_
              refine WL.val (d := (some 5)) (v := .int .i64 0) (h' := h_64) (by kernel_rfl) (by kernel_rfl) (by kernel_rfl) ?_
              refine WL.nil (by kernel_rfl) ?_
              refine Go.weaken (l' := [(4, (newP h)), (5, .int .i64 0)]) (Fr.sub_cons (by kernel_rfl) (Fr.sub_cons (by kernel_rfl) (Fr.sub_nil _))) ?_
              refine n60 ?_
              refine W.ret (by kernel_rfl) ?_
              replace hF := obind_some hF; obtain ⟨w4_67, e66, hF⟩ := hF
              obtain ⟨hF, hF2⟩ := ret_inj hF; subst hF; subst hF2
              exact leave_of (rs := [.cell 4 36, .tmp 5]) (vs := [.agg w4_67, .int .i64 0]) (by kernel_rfl) (res_cell (by kernel_rfl) (load_row (P := Try.prog) (h := h_64) (t := 36) (by kernel_rfl) (by kernel_rfl) e66) (res_tmp (by kernel_rfl) res_nil)) (by kernel_rfl)
            cases t51 with
            | true =>
              replace hF := ifB_t hF
              refine W.cond_true (by kernel_rfl) (by kernel_rfl) ?_
              refine W.region (by kernel_rfl) ?_
              refine WL.val (d := (some 52)) (v := t0) (h' := h_31) (by kernel_rfl) (by kernel_rfl) (by kernel_rfl) ?_
              refine WL.val (d := (some 53)) (v := .int .i64 t1) (h' := h_31) (by kernel_rfl) (by kernel_rfl) (by kernel_rfl) ?_
              refine WL.val (d := (some 54)) (v := .agg ([.int .i64 t1, .int .i64 0] : List AV)) (h' := h_31) (by kernel_rfl) (by kernel_rfl) (by kernel_rfl) ?_
              replace hF := obind_some hF; obtain ⟨t55, e68, hF⟩ := hF
              refine WL.val (d := (some 55)) (v := t55) (h' := h_31) (by kernel_rfl) (by kernel_rfl) (Eq.trans (by kernel_rfl) (nil_chk (h := h_31) e68)) ?_
              replace hF := obind_some hF; obtain ⟨t56, e69, hF⟩ := hF
              refine WL.val (d := (some 56)) (v := t56) (h' := h_31) (by kernel_rfl) (by kernel_rfl) (Eq.trans (by kernel_rfl) (field_ptr (P := Try.prog) (h := h_31) (s := 56) (f := 0) (by kernel_rfl) e69)) ?_
              replace hF := obind_some hF; obtain ⟨h_70, e71, hF⟩ := hF
              refine WL.eff (h' := h_70) (by kernel_rfl) (by kernel_rfl) (Eq.trans (by kernel_rfl) (store_row (P := Try.prog) (h := h_31) (t := 36) (v := (.agg ([.int .i64 t1, .int .i64 0] : List AV))) (by kernel_rfl) (by kernel_rfl) e71)) ?_
              refine WL.nil (by kernel_rfl) ?_
              refine Go.weaken (l' := [(0, t0), (4, (newP h))]) (Fr.sub_cons (by kernel_rfl) (Fr.sub_cons (by kernel_rfl) (Fr.sub_nil _))) ?_
              exact Go.weaken (Fr.sub_cons (by kernel_rfl) (Fr.sub_cons (by kernel_rfl) (Fr.sub_nil _))) (J46 _ hF)
            | false =>
              replace hF := ifB_f hF
              refine W.cond_false (by kernel_rfl) (by kernel_rfl) ?_
              refine W.skip (by kernel_rfl) ?_
              exact Go.weaken (Fr.sub_cons (by kernel_rfl) (Fr.sub_cons (by kernel_rfl) (Fr.sub_nil _))) (J46 _ hF)
        cases t25 with
        | true =>
          replace hF := ifB_t hF
          refine WL.not (d := (some 27)) (by kernel_rfl) (by kernel_rfl) ?_
          refine WL.not (d := (some 28)) (by kernel_rfl) (by kernel_rfl) ?_
          refine WL.not (d := (some 29)) (by kernel_rfl) (by kernel_rfl) ?_
          refine WL.not (d := (some 30)) (by kernel_rfl) (by kernel_rfl) ?_
          refine WL.not (d := (some 31)) (by kernel_rfl) (by kernel_rfl) ?_
          refine WL.not (d := (some 32)) (by kernel_rfl) (by kernel_rfl) ?_
          refine WL.not (d := (some 33)) (by kernel_rfl) (by kernel_rfl) ?_
          refine WL.not (d := (some 34)) (by kernel_rfl) (by kernel_rfl) ?_
          refine WL.not (d := (some 35)) (by kernel_rfl) (by kernel_rfl) ?_
          refine WL.not (d := (some 36)) (by kernel_rfl) (by kernel_rfl) ?_
          refine WL.not (d := (some 37)) (by kernel_rfl) (by kernel_rfl) ?_
          refine WL.not (d := (some 38)) (by kernel_rfl) (by kernel_rfl) ?_
          refine WL.not (d := (some 39)) (by kernel_rfl) (by kernel_rfl) ?_
          refine WL.not (d := (some 40)) (by kernel_rfl) (by kernel_rfl) ?_
          refine WL.not (d := (some 41)) (by kernel_rfl) (by kernel_rfl) ?_
          refine WL.val (d := (some 42)) (v := .bool true) (h' := h_16) (by kernel_rfl) (by kernel_rfl) (by kernel_rfl) ?_
          exact WL.weaken (Fr.sub_cons (by kernel_rfl) (Fr.sub_cons (by kernel_rfl) (Fr.sub_cons (by kernel_rfl) (Fr.sub_cons (by kernel_rfl) (Fr.sub_nil _))))) (J33 _ _ hF)
        | false =>
          replace hF := ifB_f hF
          refine WL.val (d := (some 27)) (v := .int .i64 t1) (h' := h_16) (by kernel_rfl) (by kernel_rfl) (by kernel_rfl) ?_
          refine WL.val (d := (some 28)) (v := t0) (h' := h_16) (by kernel_rfl) (by kernel_rfl) (by kernel_rfl) ?_
          replace hF := obind_some hF; obtain ⟨t29, e72, hF⟩ := hF
          refine WL.val (d := (some 29)) (v := t29) (h' := h_16) (by kernel_rfl) (by kernel_rfl) (Eq.trans (by kernel_rfl) (nil_chk (h := h_16) e72)) ?_
          replace hF := obind_some hF; obtain ⟨t30, e73, hF⟩ := hF
          refine WL.val (d := (some 30)) (v := t30) (h' := h_16) (by kernel_rfl) (by kernel_rfl) (Eq.trans (by kernel_rfl) (field_ptr (P := Try.prog) (h := h_16) (s := 56) (f := 0) (by kernel_rfl) e73)) ?_
          replace hF := obind_some hF; obtain ⟨t31, e74, hF⟩ := hF
          refine WL.val (d := (some 31)) (v := t31) (h' := h_16) (by kernel_rfl) (by kernel_rfl) (Eq.trans (by kernel_rfl) (field_ptr (P := Try.prog) (h := h_16) (s := 36) (f := 0) (by kernel_rfl) e74)) ?_
          replace hF := obind_some hF; obtain ⟨v32, e75, hF⟩ := hF
          replace hF := obind_some hF; obtain ⟨t32, c76, hF⟩ := hF
          have c76 := avInt_some c76
          subst c76
          refine WL.val (d := (some 32)) (v := .int .i64 t32) (h' := h_16) (by kernel_rfl) (by kernel_rfl) (Eq.trans (by kernel_rfl) (load_cell (P := Try.prog) (h := h_16) (t := 3) (by kernel_rfl) e75)) ?_
          replace hF := lett_some hF; obtain ⟨t33, e77, hF⟩ := hF
          refine WL.val (d := (some 33)) (v := .bool t33) (h' := h_16) (by kernel_rfl) (by kernel_rfl) (val_of AV.bool e77 (by kernel_rfl)) ?_
          refine WL.val (d := (some 34)) (v := .bool t33) (h' := h_16) (by kernel_rfl) (by kernel_rfl) (by kernel_rfl) ?_
          replace hF := lett_some hF; obtain ⟨j41, e79, hF⟩ := hF
          have J80 : ∀ (t41 : Bool) (h_78 : AHeap), j41 t41 h_78 = some (rR, hR) → WL Try.prog w0 m0 (Func.ntmps Try.f11) (Code.ops (Code.p1 (Code.p2 (Code.p2 (Code.p2 (Code.p2 (Code.p1 (Code.p1 (Code.p2 (codeOf Try.f11)))))))))) 23 K24 [(0, t0), (1, .int .i64 t1), (4, (newP h)), (26, .bool false), (41, .bool t41)] [] h_78 := by
            intro t41 h_78 hF
            rw [e79] at hF
            refine WL.val (d := (some 42)) (v := .bool t41) (h' := h_78) (by kernel_rfl) (by kernel_rfl) (by kernel_rfl) ?_
            exact WL.weaken (Fr.sub_cons (by kernel_rfl) (Fr.sub_cons (by kernel_rfl) (Fr.sub_cons (by kernel_rfl) (Fr.sub_cons (by kernel_rfl) (Fr.sub_nil _))))) (J33 _ _ hF)
          cases t33 with
          | true =>
            replace hF := ifB_t hF
            refine WL.val (d := (some 35)) (v := t0) (h' := h_16) (by kernel_rfl) (by kernel_rfl) (by kernel_rfl) ?_
            replace hF := obind_some hF; obtain ⟨t36, e81, hF⟩ := hF
            refine WL.val (d := (some 36)) (v := t36) (h' := h_16) (by kernel_rfl) (by kernel_rfl) (Eq.trans (by kernel_rfl) (nil_chk (h := h_16) e81)) ?_
            replace hF := obind_some hF; obtain ⟨t37, e82, hF⟩ := hF
            refine WL.val (d := (some 37)) (v := t37) (h' := h_16) (by kernel_rfl) (by kernel_rfl) (Eq.trans (by kernel_rfl) (field_ptr (P := Try.prog) (h := h_16) (s := 56) (f := 0) (by kernel_rfl) e82)) ?_
            replace hF := obind_some hF; obtain ⟨t38, e83, hF⟩ := hF
            refine WL.val (d := (some 38)) (v := t38) (h' := h_16) (by kernel_rfl) (by kernel_rfl) (Eq.trans (by kernel_rfl) (field_ptr (P := Try.prog) (h := h_16) (s := 36) (f := 1) (by kernel_rfl) e83)) ?_
            replace hF := obind_some hF; obtain ⟨v39, e84, hF⟩ := hF
            replace hF := obind_some hF; obtain ⟨t39, c85, hF⟩ := hF
            have c85 := avInt_some c85
            subst c85
            refine WL.val (d := (some 39)) (v := .int .i64 t39) (h' := h_16) (by kernel_rfl) (by kernel_rfl) (Eq.trans (by kernel_rfl) (load_cell (P := Try.prog) (h := h_16) (t := 3) (by kernel_rfl) e84)) ?_
            replace hF := lett_some hF; obtain ⟨t40, e86, hF⟩ := hF
            refine WL.val (d := (some 40)) (v := .bool t40) (h' := h_16) (by kernel_rfl) (by kernel_rfl) (val_of AV.bool e86 (by kernel_rfl)) ?_
            refine WL.val (d := (some 41)) (v := .bool t40) (h' := h_16) (by kernel_rfl) (by kernel_rfl) (by kernel_rfl) ?_
            exact WL.weaken (Fr.sub_cons (by kernel_rfl) (Fr.sub_cons (by kernel_rfl) (Fr.sub_cons (by kernel_rfl) (Fr.sub_cons (by kernel_rfl) (Fr.sub_cons (by kernel_rfl) (Fr.sub_nil _)))))) (J80 _ _ hF)
          | false =>
            replace hF := ifB_f hF
            refine WL.not (d := (some 35)) (by kernel_rfl) (by kernel_rfl) ?_
            refine WL.not (d := (some 36)) (by kernel_rfl) (by kernel_rfl) ?_
            refine WL.not (d := (some 37)) (by kernel_rfl) (by kernel_rfl) ?_
            refine WL.not (d := (some 38)) (by kernel_rfl) (by kernel_rfl) ?_
            refine WL.not (d := (some 39)) (by kernel_rfl) (by kernel_rfl) ?_
            refine WL.not (d := (some 40)) (by kernel_rfl) (by kernel_rfl) ?_
            refine WL.val (d := (some 41)) (v := .bool false) (h' := h_16) (by kernel_rfl) (by kernel_rfl) (by kernel_rfl) ?_
            exact WL.weaken (Fr.sub_cons (by kernel_rfl) (Fr.sub_cons (by kernel_rfl) (Fr.sub_cons (by kernel_rfl) (Fr.sub_cons (by kernel_rfl) (Fr.sub_cons (by kernel_rfl) (Fr.sub_nil _)))))) (J80 _ _ hF)
    cases t12 with
    | true =>
      replace hF := ifB_t hF
      refine WL.not (d := (some 14)) (by kernel_rfl) (by kernel_rfl) ?_
      refine WL.not (d := (some 15)) (by kernel_rfl) (by kernel_rfl) ?_
      refine WL.val (d := (some 16)) (v := .bool true) (h' := h_7) (by kernel_rfl) (by kernel_rfl) (by kernel_rfl) ?_
      exact WL.weaken (Fr.sub_cons (by kernel_rfl) (Fr.sub_cons (by kernel_rfl) (Fr.sub_cons (by kernel_rfl) (Fr.sub_cons (by kernel_rfl) (Fr.sub_nil _))))) (J18 _ _ hF)
    | false =>
      replace hF := ifB_f hF
      refine WL.val (d := (some 14)) (v := .int .i64 t1) (h' := h_7) (by kernel_rfl) (by kernel_rfl) (by kernel_rfl) ?_
      replace hF := lett_some hF; obtain ⟨t15, e87, hF⟩ := hF
      refine WL.val (d := (some 15)) (v := .bool t15) (h' := h_7) (by kernel_rfl) (by kernel_rfl) (val_of AV.bool e87 (by kernel_rfl)) ?_
      refine WL.val (d := (some 16)) (v := .bool t15) (h' := h_7) (by kernel_rfl) (by kernel_rfl) (by kernel_rfl) ?_
      exact WL.weaken (Fr.sub_cons (by kernel_rfl) (Fr.sub_cons (by kernel_rfl) (Fr.sub_cons (by kernel_rfl) (Fr.sub_cons (by kernel_rfl) (Fr.sub_nil _))))) (J18 _ _ hF)
noncomputable def lease_Issuer_Next_fn (call : CallF) (n : Nat) : FnT := fun args h => match args with
  | [x0, x1] => obind (avInt .i64 x1) fun t1 => lease_Issuer_Next call n x0 t1 h
  | _ => none
set_option maxRecDepth 100000 in
theorem lease_Issuer_Next_fn_eq (call : CallF) (n : Nat) (t0 : AV) (t1 : Int) (h : AHeap) : lease_Issuer_Next_fn call n [t0, .int .i64 t1] h = lease_Issuer_Next call n t0 t1 h :=
  (Eq.trans (obind_eq (fun t1 => lease_Issuer_Next call n t0 t1 h) (avInt_int .i64 t1)) rfl)
theorem lease_Issuer_Next_holds {call : CallF} (hc : SaysAll Try.prog call) (n : Nat) : Holds Try.prog 11 (lease_Issuer_Next_fn call n) := by
  intro args h r h2 e
  unfold lease_Issuer_Next_fn at e
  split at e
  · replace e := obind_some e; obtain ⟨t1, c1, e⟩ := e; have c1 := avInt_some c1; subst c1
    exact lease_Issuer_Next_ok hc e
  · cases e

noncomputable def lease_New (_ : CallF) (_ : Nat)  (h : AHeap) : R :=
  outK (opBox h 56 (some (.agg ([.int .i64 0, .int .i64 0] : List AV)))) fun v2 h_3 =>
  some (.ret (v2), h_3)
set_option maxHeartbeats 4000000 in
set_option maxRecDepth 20000 in
theorem lease_New_ok {call : CallF} (_ : SaysAll Try.prog call) {n : Nat}  {h : AHeap} {rR : ARes} {hR : AHeap} (hF : lease_New call n  h = some (rR, hR)) : Says Try.prog 10 [] h rR hR := by
  unfold lease_New at hF
  refine says_of (fn := Try.f10) Try.func10 (c := codeOf Try.f10) (by kernel_rfl) (by kernel_rfl) (fun w0 m0 => ?_)
  refine W.weaken (l' := []) (Fr.sub_nil _) ?_
  refine W.seqK (by kernel_rfl) (fun K1 n1 e1 r1 p1 => ?_)
  refine W.region (by kernel_rfl) ?_
  refine WL.val (d := (some 0)) (v := AV.nilp) (h' := h) (by kernel_rfl) (by kernel_rfl) (by kernel_rfl) ?_
  refine WL.nil (by kernel_rfl) ?_
  refine Go.weaken (l' := []) (Fr.sub_nil _) ?_
  refine n1 ?_
  refine W.seqK (by kernel_rfl) (fun K2 n2 e2 r2 p2 => ?_)
  refine W.region (by kernel_rfl) ?_
  refine WL.val (d := (some 1)) (v := .agg ([.int .i64 0, .int .i64 0] : List AV)) (h' := h) (by kernel_rfl) (by kernel_rfl) (by kernel_rfl) ?_
  replace hF := outK_some hF; obtain ⟨v2, h_3, e4, hF⟩ := hF
  refine WL.val (d := (some 2)) (v := v2) (h' := h_3) (by kernel_rfl) (by kernel_rfl) (Eq.trans (by kernel_rfl) e4) ?_
  refine WL.val (d := (some 0)) (v := v2) (h' := h_3) (by kernel_rfl) (by kernel_rfl) (by kernel_rfl) ?_
  refine WL.nil (by kernel_rfl) ?_
  refine Go.weaken (l' := [(0, v2)]) (Fr.sub_cons (by kernel_rfl) (Fr.sub_nil _)) ?_
  refine n2 ?_
  refine W.ret (by kernel_rfl) ?_
  obtain ⟨hF, hF2⟩ := ret_inj hF; subst hF; subst hF2
  exact leave_of (rs := [.tmp 0]) (vs := [v2]) (by kernel_rfl) (res_tmp (by kernel_rfl) res_nil) (by kernel_rfl)
noncomputable def lease_New_fn (call : CallF) (n : Nat) : FnT := fun args h => match args with
  | [] => lease_New call n  h
  | _ => none
set_option maxRecDepth 100000 in
theorem lease_New_fn_eq (call : CallF) (n : Nat)  (h : AHeap) : lease_New_fn call n [] h = lease_New call n  h :=
  rfl
theorem lease_New_holds {call : CallF} (hc : SaysAll Try.prog call) (n : Nat) : Holds Try.prog 10 (lease_New_fn call n) := by
  intro args h r h2 e
  unfold lease_New_fn at e
  split at e
  · exact lease_New_ok hc e
  · cases e

end Go.Proofs.Ytjhnmfhpjlolhaa
