/- Plain functions in place of the program's, and that their calls come to what they say. -/
import Derived.Test.YtcbnpdfingfmgaaFrame
import Derived.Test.YtcbnpdfingfmgaaAbs50
namespace Go.Proofs.Ytcbnpdfingfmgaa
open Go.RowKit Abs

noncomputable def law04_DiskPower_L0b (call : CallF) (t0 : AV) (t1 : Int) (r19 : AV) (t24 : Int) (k30 : Int → AHeap → R) (self : Int → Int → AHeap → R) (t6_35 : Int) (t25 : Int) (h_36 : AHeap) : R :=
  lett (decide (t25 < t24)) fun (t26 : Bool) =>
  ifB t26
  (
    obind (idxP 5 t0 t25) fun t27 =>
    obind (ldRow h_36 5 t27) fun t28 =>
    lett (newH h_36 43 [.int .i64 0, .int .i64 0, .int .i64 0, .str 0 0, .nsl]) fun h_45 =>
    obind (stRow h_45 5 t28 (newP h_36)) fun h_47 =>
    callN (call 18 [r19] h_47) fun r30 h_50 =>
    obind (avBool r30) fun t30 =>
    obind (ldCell h_50 (AV.ptr (AHeap.next h_36) 0)) fun v32 =>
    obind (avInt .i64 v32) fun t32 =>
    obind (remI .i64 t32 4) fun t33 =>
    lett ((t33 : Int) == 0) fun (t39 : Bool) =>
    lett (fun (t10 : Int) (h_63 : AHeap) =>
      lett ((t10 : Int) == 0) fun (t61 : Bool) =>
      lett (fun (t6_68 : Int) (h_69 : AHeap) =>
        lett (decide (t6_68 < t1)) fun (t67 : Bool) =>
        lett (fun (t71 : Bool) (h_72 : AHeap) =>
          lett (!((t30 : Bool) == t71)) fun (t72 : Bool) =>
          lett (fun (t78 : Bool) (h_76 : AHeap) =>
            lett (fun (t84 : Bool) (h_79 : AHeap) =>
              lett (fun (t92 : Bool) (h_82 : AHeap) =>
                ifB t92
                (
                  some (.ret (.bool false), h_82))
                (
                  lett (IntKind.i64.wrap (t25 + 1)) fun (t93 : Int) =>
                  self t6_68 t93 h_82)) fun j92 =>
              ifB t84
              (
                j92 true h_79)
              (
                callN (call 18 [r19] h_79) fun r87 h_87 =>
                obind (avBool r87) fun t87 =>
                lett (decide (t6_68 < t1)) fun (t90 : Bool) =>
                lett (!((t87 : Bool) == t90)) fun (t91 : Bool) =>
                j92 t91 h_87)) fun j84 =>
            ifB t78
            (
              j84 true h_76)
            (
              callN (call 19 [r19] h_76) fun r81 h_92 =>
              obind (avInt .i64 r81) fun t81 =>
              lett ((t81 : Int) != t6_68) fun (t83 : Bool) =>
              j84 t83 h_92)) fun j78 =>
          ifB t72
          (
            j78 true h_72)
          (
            lett ((t10 : Int) == 40) fun (t76 : Bool) =>
            lett ((t30 : Bool) == t76) fun (t77 : Bool) =>
            j78 t77 h_72)) fun j71 =>
        ifB t67
        (
          j71 true h_69)
        (
          lett ((t10 : Int) == 0) fun (t70 : Bool) =>
          j71 t70 h_69)) fun k67 =>
      ifB t61
      (
        lett (IntKind.i64.wrap (t6_35 + 1)) fun (t63 : Int) =>
        k67 t63 h_63)
      (
        k67 t6_35 h_63)) fun k62 =>
    ifB t39
    (
      obind (ldCell h_50 (AV.ptr (AHeap.next h_36) 1)) fun v42 =>
      obind (avInt .i64 v42) fun t42 =>
      obind (ldCell h_50 (AV.ptr (AHeap.next h_36) 3)) fun v44 =>
      obind (avStr v44) fun t44 =>
      callN (call 9 [r19, .int .i64 t42, strA t44] h_50) fun r45 h_104 =>
      obind (avInt .i64 r45) fun t45 =>
      k62 t45 h_104)
    (
      lett ((t33 : Int) == 1) fun (t47 : Bool) =>
      lett (fun (t10_110 : Int) (h_111 : AHeap) =>
        k62 t10_110 h_111) fun k109 =>
      ifB t47
      (
        obind (ldCell h_50 (AV.ptr (AHeap.next h_36) 1)) fun v50 =>
        obind (avInt .i64 v50) fun t50 =>
        obind (ldCell h_50 (AV.ptr (AHeap.next h_36) 2)) fun v52 =>
        obind (avInt .i64 v52) fun t52 =>
        callN (call 15 [r19, .int .i64 t50, .int .i64 t52] h_50) fun r53 h_116 =>
        obind (avInt .i64 r53) fun t53 =>
        k109 t53 h_116)
      (
        lett ((t33 : Int) == 2) fun (t55 : Bool) =>
        lett (fun (t10_122 : Int) (h_123 : AHeap) =>
          k109 t10_122 h_123) fun k121 =>
        ifB t55
        (
          obind (ldCell h_50 (AV.ptr (AHeap.next h_36) 1)) fun v58 =>
          obind (avInt .i64 v58) fun t58 =>
          callN (call 16 [r19, .int .i64 t58] h_50) fun r59 h_126 =>
          obind (avInt .i64 r59) fun t59 =>
          k121 t59 h_126)
        (
          obind (ldCell h_50 (AV.ptr (AHeap.next h_36) 1)) fun v36 =>
          obind (avInt .i64 v36) fun t36 =>
          callN (call 10 [r19, .int .i64 t36] h_50) fun r37 h_131 =>
          obind (avInt .i64 r37) fun t37 =>
          k121 t37 h_131))))
  (
    k30 t6_35 h_36)
noncomputable def law04_DiskPower_L0 (call : CallF) (t0 : AV) (t1 : Int) (r19 : AV) (t24 : Int) (k30 : Int → AHeap → R) : Nat → Int → Int → AHeap → R := iterR (fun _ _ _ => none) (law04_DiskPower_L0b call t0 t1 r19 t24 k30)
theorem law04_DiskPower_L0_s (call : CallF) (t0 : AV) (t1 : Int) (r19 : AV) (t24 : Int) (k30 : Int → AHeap → R) (m : Nat) : law04_DiskPower_L0 call t0 t1 r19 t24 k30 (m + 1) = law04_DiskPower_L0b call t0 t1 r19 t24 k30 (law04_DiskPower_L0 call t0 t1 r19 t24 k30 m) := rfl
noncomputable def law04_DiskPower (call : CallF) (n : Nat) (t0 : AV) (t1 : Int) (h : AHeap) : R :=
  callN (call 7 [] h) fun r11 h_4 =>
  obind (avBool r11) fun t11 =>
  lett (!t11) fun (t12 : Bool) =>
  ifB t12
  (
    some (.ret (.bool false), h_4))
  (
    callN (call 22 [t0] h_4) fun r14 h_11 =>
    obind (avBool r14) fun t14 =>
    lett (fun (t18 : Bool) (h_14 : AHeap) =>
      ifB t18
      (
        some (.ret (.bool true), h_14))
      (
        callN (call 8 [] h_14) fun r19 h_19 =>
        callN (call 17 [r19, .int .i64 t1] h_19) fun r22 h_22 =>
        obind (avInt .i64 r22) fun _ =>
        obind (lenL t0) fun t24 =>
        lett (fun (t6 : Int) (h_31 : AHeap) =>
          lett (decide (t6 ≤ t1)) fun (t96 : Bool) =>
          some (.ret (.bool t96), h_31)) fun k30 =>
        law04_DiskPower_L0 call t0 t1 r19 t24 k30 n 0 0 h_22)) fun j18 =>
    ifB t14
    (
      j18 true h_11)
    (
      lett (decide (t1 < 0)) fun (t17 : Bool) =>
      j18 t17 h_11))
set_option maxHeartbeats 4000000 in
set_option maxRecDepth 20000 in
theorem law04_DiskPower_ok {call : CallF} (hc : SaysAll Try.prog call) {n : Nat} {t0 : AV} {t1 : Int} {h : AHeap} {rR : ARes} {hR : AHeap} (hF : law04_DiskPower call n t0 t1 h = some (rR, hR)) : Says Try.prog 6 [t0, .int .i64 t1] h rR hR := by
  unfold law04_DiskPower at hF
  refine says_of (fn := Try.f6) Try.func6 (c := codeOf Try.f6) (by kernel_rfl) (by kernel_rfl) (fun w0 m0 => ?_)
  refine W.weaken (l' := [(0, t0), (1, .int .i64 t1)]) (Fr.sub_cons (by kernel_rfl) (Fr.sub_cons (by kernel_rfl) (Fr.sub_nil _))) ?_
  refine W.seqK (by kernel_rfl) (fun K1 n1 e1 q1 p1 => ?_)
  refine W.region (by kernel_rfl) ?_
  refine WL.val (d := (some 4)) (v := .bool false) (h' := h) (by kernel_rfl) (by kernel_rfl) (by kernel_rfl) ?_
  refine WL.nil (by kernel_rfl) ?_
  refine Go.weaken (l' := [(0, t0), (1, .int .i64 t1)]) (Fr.sub_cons (by kernel_rfl) (Fr.sub_cons (by kernel_rfl) (Fr.sub_nil _))) ?_
  refine n1 ?_
  refine W.seqK (by kernel_rfl) (fun K2 n2 e2 q2 p2 => ?_)
  refine W.seqK (by kernel_rfl) (fun K3 n3 e3 q3 p3 => ?_)
  refine W.region (by kernel_rfl) ?_
  replace hF := callN_some hF; obtain ⟨r11, h_4, e5, hF⟩ := hF
  replace hF := obind_some hF; obtain ⟨t11, c6, hF⟩ := hF
  have c6 := avBool_some c6
  subst c6
  refine WL.call (hc.ok w0) (d := (some 11)) (by kernel_rfl) (by kernel_rfl) (by kernel_rfl) e5 ?_
  replace hF := lett_some hF; obtain ⟨t12, e7, hF⟩ := hF
  refine WL.val (d := (some 12)) (v := .bool t12) (h' := h_4) (by kernel_rfl) (by kernel_rfl) (val_of AV.bool e7 (by kernel_rfl)) ?_
  refine WL.nil (by kernel_rfl) ?_
  refine Go.weaken (l' := [(0, t0), (1, .int .i64 t1), (12, .bool t12)]) (Fr.sub_cons (by kernel_rfl) (Fr.sub_cons (by kernel_rfl) (Fr.sub_cons (by kernel_rfl) (Fr.sub_nil _)))) ?_
  refine n3 ?_
  cases t12 with
  | true =>
    replace hF := ifB_t hF
    refine W.cond_true (by kernel_rfl) (by kernel_rfl) ?_
    refine W.seqK (by kernel_rfl) (fun K8 n8 e8 q8 p8 => ?_)
    refine W.region (by kernel_rfl) ?_
    refine WL.val (d := (some 4)) (v := .bool false) (h' := h_4) (by kernel_rfl) (by kernel_rfl) (by kernel_rfl) ?_
    refine WL.nil (by kernel_rfl) ?_
    refine Go.weaken (l' := [(4, .bool false)]) (Fr.sub_cons (by kernel_rfl) (Fr.sub_nil _)) ?_
    refine n8 ?_
    refine W.ret (by kernel_rfl) ?_
    refine q2 ?_
    obtain ⟨hF, hF2⟩ := ret_inj hF; subst hF; subst hF2
    exact leave_of (rs := [.tmp 4]) (vs := [.bool false]) (by kernel_rfl) (res_tmp (by kernel_rfl) res_nil) (by kernel_rfl)
  | false =>
    replace hF := ifB_f hF
    refine W.cond_false (by kernel_rfl) (by kernel_rfl) ?_
    refine W.skip (by kernel_rfl) ?_
    refine n2 ?_
    refine W.seqK (by kernel_rfl) (fun K9 n9 e9 q9 p9 => ?_)
    refine W.seqK (by kernel_rfl) (fun K10 n10 e10 q10 p10 => ?_)
    refine W.region (by kernel_rfl) ?_
    refine WL.val (d := (some 13)) (v := t0) (h' := h_4) (by kernel_rfl) (by kernel_rfl) (by kernel_rfl) ?_
    replace hF := callN_some hF; obtain ⟨r14, h_11, e12, hF⟩ := hF
    replace hF := obind_some hF; obtain ⟨t14, c13, hF⟩ := hF
    have c13 := avBool_some c13
    subst c13
    refine WL.call (hc.ok w0) (d := (some 14)) (by kernel_rfl) (by kernel_rfl) (by kernel_rfl) e12 ?_
    refine WL.val (d := (some 15)) (v := .bool t14) (h' := h_11) (by kernel_rfl) (by kernel_rfl) (by kernel_rfl) ?_
    replace hF := lett_some hF; obtain ⟨j18, e15, hF⟩ := hF
    have J16 : ∀ (t18 : Bool) (h_14 : AHeap), j18 t18 h_14 = some (rR, hR) → WL Try.prog w0 m0 (Func.ntmps Try.f6) (Code.ops (Code.p1 (Code.p1 (Code.p2 (Code.p2 (codeOf Try.f6)))))) 6 K10 [(0, t0), (1, .int .i64 t1), (18, .bool t18)] [] h_14 := by
      intro t18 h_14 hF
      rw [e15] at hF
      refine WL.nil (by kernel_rfl) ?_
      refine Go.weaken (l' := [(0, t0), (1, .int .i64 t1), (18, .bool t18)]) (Fr.sub_cons (by kernel_rfl) (Fr.sub_cons (by kernel_rfl) (Fr.sub_cons (by kernel_rfl) (Fr.sub_nil _)))) ?_
      refine n10 ?_
      cases t18 with
      | true =>
        replace hF := ifB_t hF
        refine W.cond_true (by kernel_rfl) (by kernel_rfl) ?_
        refine W.seqK (by kernel_rfl) (fun K17 n17 e17 q17 p17 => ?_)
        refine W.region (by kernel_rfl) ?_
        refine WL.val (d := (some 4)) (v := .bool true) (h' := h_14) (by kernel_rfl) (by kernel_rfl) (by kernel_rfl) ?_
        refine WL.nil (by kernel_rfl) ?_
        refine Go.weaken (l' := [(4, .bool true)]) (Fr.sub_cons (by kernel_rfl) (Fr.sub_nil _)) ?_
        refine n17 ?_
        refine W.ret (by kernel_rfl) ?_
        refine q9 ?_
        obtain ⟨hF, hF2⟩ := ret_inj hF; subst hF; subst hF2
        exact leave_of (rs := [.tmp 4]) (vs := [.bool true]) (by kernel_rfl) (res_tmp (by kernel_rfl) res_nil) (by kernel_rfl)
      | false =>
        replace hF := ifB_f hF
        refine W.cond_false (by kernel_rfl) (by kernel_rfl) ?_
        refine W.skip (by kernel_rfl) ?_
        refine n9 ?_
        refine W.seqK (by kernel_rfl) (fun K18 n18 e18 q18 p18 => ?_)
        refine W.region (by kernel_rfl) ?_
        replace hF := callN_some hF; obtain ⟨r19, h_19, e20, hF⟩ := hF
        refine WL.call (hc.ok w0) (d := (some 19)) (by kernel_rfl) (by kernel_rfl) (by kernel_rfl) e20 ?_
        refine WL.val (d := (some 5)) (v := r19) (h' := h_19) (by kernel_rfl) (by kernel_rfl) (by kernel_rfl) ?_
        refine WL.nil (by kernel_rfl) ?_
        refine Go.weaken (l' := [(0, t0), (1, .int .i64 t1), (5, r19)]) (Fr.sub_cons (by kernel_rfl) (Fr.sub_cons (by kernel_rfl) (Fr.sub_cons (by kernel_rfl) (Fr.sub_nil _)))) ?_
        refine n18 ?_
        refine W.seqK (by kernel_rfl) (fun K21 n21 e21 q21 p21 => ?_)
        refine W.region (by kernel_rfl) ?_
        refine WL.val (d := (some 20)) (v := r19) (h' := h_19) (by kernel_rfl) (by kernel_rfl) (by kernel_rfl) ?_
        refine WL.val (d := (some 21)) (v := .int .i64 t1) (h' := h_19) (by kernel_rfl) (by kernel_rfl) (by kernel_rfl) ?_
        replace hF := callN_some hF; obtain ⟨r22, h_22, e23, hF⟩ := hF
        replace hF := obind_some hF; obtain ⟨t22, c24, hF⟩ := hF
        have c24 := avInt_some c24
        subst c24
        refine WL.call (hc.ok w0) (d := (some 22)) (by kernel_rfl) (by kernel_rfl) (by kernel_rfl) e23 ?_
        refine WL.nil (by kernel_rfl) ?_
        refine Go.weaken (l' := [(0, t0), (1, .int .i64 t1), (5, r19)]) (Fr.sub_cons (by kernel_rfl) (Fr.sub_cons (by kernel_rfl) (Fr.sub_cons (by kernel_rfl) (Fr.sub_nil _)))) ?_
        refine n21 ?_
        refine W.seqK (by kernel_rfl) (fun K25 n25 e25 q25 p25 => ?_)
        refine W.region (by kernel_rfl) ?_
        refine WL.val (d := (some 6)) (v := .int .i64 0) (h' := h_22) (by kernel_rfl) (by kernel_rfl) (by kernel_rfl) ?_
        refine WL.nil (by kernel_rfl) ?_
        refine Go.weaken (l' := [(0, t0), (1, .int .i64 t1), (5, r19), (6, .int .i64 0)]) (Fr.sub_cons (by kernel_rfl) (Fr.sub_cons (by kernel_rfl) (Fr.sub_cons (by kernel_rfl) (Fr.sub_cons (by kernel_rfl) (Fr.sub_nil _))))) ?_
        refine n25 ?_
        refine W.seqK (by kernel_rfl) (fun K26 n26 e26 q26 p26 => ?_)
        refine W.seqK (by kernel_rfl) (fun K27 n27 e27 q27 p27 => ?_)
        refine W.region (by kernel_rfl) ?_
        refine WL.val (d := (some 23)) (v := t0) (h' := h_22) (by kernel_rfl) (by kernel_rfl) (by kernel_rfl) ?_
        replace hF := obind_some hF; obtain ⟨t24, e28, hF⟩ := hF
        refine WL.val (d := (some 24)) (v := .int .i64 t24) (h' := h_22) (by kernel_rfl) (by kernel_rfl) (Eq.trans (by kernel_rfl) (len_row (P := Try.prog) (h := h_22) (t := 38) (e' := 43) (by kernel_rfl) e28)) ?_
        refine WL.val (d := (some 25)) (v := .int .i64 0) (h' := h_22) (by kernel_rfl) (by kernel_rfl) (by kernel_rfl) ?_
        refine WL.nil (by kernel_rfl) ?_
        refine Go.weaken (l' := [(1, .int .i64 t1), (5, r19), (6, .int .i64 0), (23, t0), (24, .int .i64 t24), (25, .int .i64 0)]) (Fr.sub_cons (by kernel_rfl) (Fr.sub_cons (by kernel_rfl) (Fr.sub_cons (by kernel_rfl) (Fr.sub_cons (by kernel_rfl) (Fr.sub_cons (by kernel_rfl) (Fr.sub_cons (by kernel_rfl) (Fr.sub_nil _))))))) ?_
        refine n27 ?_
        replace hF := lett_some hF; obtain ⟨k30, e30, hF⟩ := hF
        have J30 : ∀ (t6 : Int) (h_31 : AHeap), k30 t6 h_31 = some (rR, hR) → Go w0 m0 (Func.ntmps Try.f6) (K26 .normal) [(1, .int .i64 t1), (6, .int .i64 t6)] [] h_31 := by
          intro t6 h_31 hF
          rw [e30] at hF
          refine n26 ?_
          refine W.seqK (by kernel_rfl) (fun K32 n32 e32 q32 p32 => ?_)
          refine W.region (by kernel_rfl) ?_
          refine WL.val (d := (some 94)) (v := .int .i64 t6) (h' := h_31) (by kernel_rfl) (by kernel_rfl) (by kernel_rfl) ?_
          refine WL.val (d := (some 95)) (v := .int .i64 t1) (h' := h_31) (by kernel_rfl) (by kernel_rfl) (by kernel_rfl) ?_
          replace hF := lett_some hF; obtain ⟨t96, e33, hF⟩ := hF
          refine WL.val (d := (some 96)) (v := .bool t96) (h' := h_31) (by kernel_rfl) (by kernel_rfl) (val_of AV.bool e33 (by kernel_rfl)) ?_
          refine WL.val (d := (some 4)) (v := .bool t96) (h' := h_31) (by kernel_rfl) (by kernel_rfl) (by kernel_rfl) ?_
          refine WL.nil (by kernel_rfl) ?_
          refine Go.weaken (l' := [(4, .bool t96)]) (Fr.sub_cons (by kernel_rfl) (Fr.sub_nil _)) ?_
          refine n32 ?_
          refine W.ret (by kernel_rfl) ?_
          obtain ⟨hF, hF2⟩ := ret_inj hF; subst hF; subst hF2
          exact leave_of (rs := [.tmp 4]) (vs := [.bool t96]) (by kernel_rfl) (res_tmp (by kernel_rfl) res_nil) (by kernel_rfl)
        refine W.blockK (by kernel_rfl) (fun K29 n29 s29 o29 q29 p29 => ?_)
        refine W.loopK (by kernel_rfl) (fun I34 K34 b34 n34 e34 q34 p34 => ?_)
        have L34 : ∀ (m : Nat) (t6_35 : Int) (t25 : Int) (h_36 : AHeap), law04_DiskPower_L0 call t0 t1 r19 t24 k30 m t6_35 t25 h_36 = some (rR, hR) → Go w0 m0 (Func.ntmps Try.f6) I34 [(1, .int .i64 t1), (5, r19), (6, .int .i64 t6_35), (23, t0), (24, .int .i64 t24), (25, .int .i64 t25)] [] h_36 := by
          intro m
          induction m with
          | zero => intro t6_35 t25 h_36 hF; cases hF
          | succ m ih34 =>
            intro t6_35 t25 h_36 hF
            rw [law04_DiskPower_L0_s] at hF; unfold law04_DiskPower_L0b at hF
            refine b34 ?_
            refine W.seqK (by kernel_rfl) (fun K37 n37 e37 q37 p37 => ?_)
            refine W.region (by kernel_rfl) ?_
            replace hF := lett_some hF; obtain ⟨t26, e38, hF⟩ := hF
            refine WL.val (d := (some 26)) (v := .bool t26) (h' := h_36) (by kernel_rfl) (by kernel_rfl) (val_of AV.bool e38 (by kernel_rfl)) ?_
            refine WL.nil (by kernel_rfl) ?_
            refine Go.weaken (l' := [(1, .int .i64 t1), (5, r19), (6, .int .i64 t6_35), (23, t0), (24, .int .i64 t24), (25, .int .i64 t25), (26, .bool t26)]) (Fr.sub_cons (by kernel_rfl) (Fr.sub_cons (by kernel_rfl) (Fr.sub_cons (by kernel_rfl) (Fr.sub_cons (by kernel_rfl) (Fr.sub_cons (by kernel_rfl) (Fr.sub_cons (by kernel_rfl) (Fr.sub_cons (by kernel_rfl) (Fr.sub_nil _)))))))) ?_
            refine n37 ?_
            refine W.seqK (by kernel_rfl) (fun K39 n39 e39 q39 p39 => ?_)
            cases t26 with
            | true =>
              replace hF := ifB_t hF
              refine W.cond_true (by kernel_rfl) (by kernel_rfl) ?_
              refine W.skip (by kernel_rfl) ?_
              refine n39 ?_
              refine W.seqK (by kernel_rfl) (fun K40 n40 e40 q40 p40 => ?_)
              refine W.blockK (by kernel_rfl) (fun K41 n41 s41 o41 q41 p41 => ?_)
              refine W.seqK (by kernel_rfl) (fun K42 n42 e42 q42 p42 => ?_)
              refine W.region (by kernel_rfl) ?_
              replace hF := obind_some hF; obtain ⟨t27, e43, hF⟩ := hF
              refine WL.val (d := (some 27)) (v := t27) (h' := h_36) (by kernel_rfl) (by kernel_rfl) (Eq.trans (by kernel_rfl) (index_row (P := Try.prog) (h := h_36) (t := 38) (e' := 43) (k := .i64) (by kernel_rfl) (by kernel_rfl) (by kernel_rfl) e43)) ?_
              replace hF := obind_some hF; obtain ⟨t28, e44, hF⟩ := hF
              refine WL.val (d := (some 28)) (v := .agg t28) (h' := h_36) (by kernel_rfl) (by kernel_rfl) (Eq.trans (by kernel_rfl) (load_row (P := Try.prog) (h := h_36) (t := 43) (by kernel_rfl) (by kernel_rfl) e44)) ?_
              replace hF := lett_some hF; obtain ⟨h_45, e46, hF⟩ := hF
              refine WL.val (d := (some 8)) (v := (newP h_36)) (h' := h_45) (by kernel_rfl) (by kernel_rfl) (val_ofH e46 (by kernel_rfl)) ?_
              replace hF := obind_some hF; obtain ⟨h_47, e48, hF⟩ := hF
              refine WL.eff (h' := h_47) (by kernel_rfl) (by kernel_rfl) (Eq.trans (by kernel_rfl) (store_row (P := Try.prog) (h := h_45) (t := 43) (v := (.agg t28)) (by kernel_rfl) (by kernel_rfl) e48)) ?_
              refine WL.nil (by kernel_rfl) ?_
              refine Go.weaken (l' := [(1, .int .i64 t1), (5, r19), (6, .int .i64 t6_35), (8, (newP h_36)), (23, t0), (24, .int .i64 t24), (25, .int .i64 t25)]) (Fr.sub_cons (by kernel_rfl) (Fr.sub_cons (by kernel_rfl) (Fr.sub_cons (by kernel_rfl) (Fr.sub_cons (by kernel_rfl) (Fr.sub_cons (by kernel_rfl) (Fr.sub_cons (by kernel_rfl) (Fr.sub_cons (by kernel_rfl) (Fr.sub_nil _)))))))) ?_
              refine n42 ?_
              refine W.seqK (by kernel_rfl) (fun K49 n49 e49 q49 p49 => ?_)
              refine W.region (by kernel_rfl) ?_
              refine WL.val (d := (some 29)) (v := r19) (h' := h_47) (by kernel_rfl) (by kernel_rfl) (by kernel_rfl) ?_
              replace hF := callN_some hF; obtain ⟨r30, h_50, e51, hF⟩ := hF
              replace hF := obind_some hF; obtain ⟨t30, c52, hF⟩ := hF
              have c52 := avBool_some c52
              subst c52
              refine WL.call (hc.ok w0) (d := (some 30)) (by kernel_rfl) (by kernel_rfl) (by kernel_rfl) e51 ?_
              refine WL.val (d := (some 9)) (v := .bool t30) (h' := h_50) (by kernel_rfl) (by kernel_rfl) (by kernel_rfl) ?_
              refine WL.nil (by kernel_rfl) ?_
              refine Go.weaken (l' := [(1, .int .i64 t1), (5, r19), (6, .int .i64 t6_35), (8, (newP h_36)), (9, .bool t30), (23, t0), (24, .int .i64 t24), (25, .int .i64 t25)]) (Fr.sub_cons (by kernel_rfl) (Fr.sub_cons (by kernel_rfl) (Fr.sub_cons (by kernel_rfl) (Fr.sub_cons (by kernel_rfl) (Fr.sub_cons (by kernel_rfl) (Fr.sub_cons (by kernel_rfl) (Fr.sub_cons (by kernel_rfl) (Fr.sub_cons (by kernel_rfl) (Fr.sub_nil _))))))))) ?_
              refine n49 ?_
              refine W.seqK (by kernel_rfl) (fun K53 n53 e53 q53 p53 => ?_)
              refine W.region (by kernel_rfl) ?_
              refine WL.val (d := (some 10)) (v := .int .i64 0) (h' := h_50) (by kernel_rfl) (by kernel_rfl) (by kernel_rfl) ?_
              refine WL.nil (by kernel_rfl) ?_
              refine Go.weaken (l' := [(1, .int .i64 t1), (5, r19), (6, .int .i64 t6_35), (8, (newP h_36)), (9, .bool t30), (23, t0), (24, .int .i64 t24), (25, .int .i64 t25)]) (Fr.sub_cons (by kernel_rfl) (Fr.sub_cons (by kernel_rfl) (Fr.sub_cons (by kernel_rfl) (Fr.sub_cons (by kernel_rfl) (Fr.sub_cons (by kernel_rfl) (Fr.sub_cons (by kernel_rfl) (Fr.sub_cons (by kernel_rfl) (Fr.sub_cons (by kernel_rfl) (Fr.sub_nil _))))))))) ?_
              refine n53 ?_
              refine W.seqK (by kernel_rfl) (fun K54 n54 e54 q54 p54 => ?_)
              refine W.seqK (by kernel_rfl) (fun K55 n55 e55 q55 p55 => ?_)
              refine W.region (by kernel_rfl) ?_
              refine WL.val (d := (some 31)) (v := (AV.ptr (AHeap.next h_36) 0)) (h' := h_50) (by kernel_rfl) (by kernel_rfl) (by kernel_rfl) ?_
              replace hF := obind_some hF; obtain ⟨v32, e56, hF⟩ := hF
              replace hF := obind_some hF; obtain ⟨t32, c57, hF⟩ := hF
              have c57 := avInt_some c57
              subst c57
              refine WL.val (d := (some 32)) (v := .int .i64 t32) (h' := h_50) (by kernel_rfl) (by kernel_rfl) (Eq.trans (by kernel_rfl) (load_cell (P := Try.prog) (h := h_50) (t := 3) (by kernel_rfl) e56)) ?_
              replace hF := obind_some hF; obtain ⟨t33, e58, hF⟩ := hF
              refine WL.val (d := (some 33)) (v := .int .i64 t33) (h' := h_50) (by kernel_rfl) (by kernel_rfl) (Eq.trans (by kernel_rfl) (rem_int (P := Try.prog) (h := h_50) (t := 3) (lit := true) e58)) ?_
              refine WL.nil (by kernel_rfl) ?_
              refine Go.weaken (l' := [(1, .int .i64 t1), (5, r19), (6, .int .i64 t6_35), (8, (newP h_36)), (9, .bool t30), (23, t0), (24, .int .i64 t24), (25, .int .i64 t25), (33, .int .i64 t33)]) (Fr.sub_cons (by kernel_rfl) (Fr.sub_cons (by kernel_rfl) (Fr.sub_cons (by kernel_rfl) (Fr.sub_cons (by kernel_rfl) (Fr.sub_cons (by kernel_rfl) (Fr.sub_cons (by kernel_rfl) (Fr.sub_cons (by kernel_rfl) (Fr.sub_cons (by kernel_rfl) (Fr.sub_cons (by kernel_rfl) (Fr.sub_nil _)))))))))) ?_
              refine n55 ?_
              refine W.blockK (by kernel_rfl) (fun K59 n59 s59 o59 q59 p59 => ?_)
              refine W.seqK (by kernel_rfl) (fun K60 n60 e60 q60 p60 => ?_)
              refine W.region (by kernel_rfl) ?_
              replace hF := lett_some hF; obtain ⟨t39, e61, hF⟩ := hF
              refine WL.val (d := (some 39)) (v := .bool t39) (h' := h_50) (by kernel_rfl) (by kernel_rfl) (val_of AV.bool e61 (by kernel_rfl)) ?_
              refine WL.val (d := (some 38)) (v := .bool t39) (h' := h_50) (by kernel_rfl) (by kernel_rfl) (by kernel_rfl) ?_
              refine WL.nil (by kernel_rfl) ?_
              refine Go.weaken (l' := [(1, .int .i64 t1), (5, r19), (6, .int .i64 t6_35), (8, (newP h_36)), (9, .bool t30), (23, t0), (24, .int .i64 t24), (25, .int .i64 t25), (33, .int .i64 t33), (38, .bool t39)]) (Fr.sub_cons (by kernel_rfl) (Fr.sub_cons (by kernel_rfl) (Fr.sub_cons (by kernel_rfl) (Fr.sub_cons (by kernel_rfl) (Fr.sub_cons (by kernel_rfl) (Fr.sub_cons (by kernel_rfl) (Fr.sub_cons (by kernel_rfl) (Fr.sub_cons (by kernel_rfl) (Fr.sub_cons (by kernel_rfl) (Fr.sub_cons (by kernel_rfl) (Fr.sub_nil _))))))))))) ?_
              refine n60 ?_
              replace hF := lett_some hF; obtain ⟨k62, e62, hF⟩ := hF
              have J62 : ∀ (t10 : Int) (h_63 : AHeap), k62 t10 h_63 = some (rR, hR) → Go w0 m0 (Func.ntmps Try.f6) (K59 .normal) [(1, .int .i64 t1), (5, r19), (6, .int .i64 t6_35), (9, .bool t30), (10, .int .i64 t10), (23, t0), (24, .int .i64 t24), (25, .int .i64 t25)] [] h_63 := by
                intro t10 h_63 hF
                rw [e62] at hF
                refine n59 ?_
                refine n54 ?_
                refine W.seqK (by kernel_rfl) (fun K64 n64 e64 q64 p64 => ?_)
                refine W.seqK (by kernel_rfl) (fun K65 n65 e65 q65 p65 => ?_)
                refine W.region (by kernel_rfl) ?_
                refine WL.val (d := (some 60)) (v := .int .i64 t10) (h' := h_63) (by kernel_rfl) (by kernel_rfl) (by kernel_rfl) ?_
                replace hF := lett_some hF; obtain ⟨t61, e66, hF⟩ := hF
                refine WL.val (d := (some 61)) (v := .bool t61) (h' := h_63) (by kernel_rfl) (by kernel_rfl) (val_of AV.bool e66 (by kernel_rfl)) ?_
                refine WL.nil (by kernel_rfl) ?_
                refine Go.weaken (l' := [(1, .int .i64 t1), (5, r19), (6, .int .i64 t6_35), (9, .bool t30), (10, .int .i64 t10), (23, t0), (24, .int .i64 t24), (25, .int .i64 t25), (61, .bool t61)]) (Fr.sub_cons (by kernel_rfl) (Fr.sub_cons (by kernel_rfl) (Fr.sub_cons (by kernel_rfl) (Fr.sub_cons (by kernel_rfl) (Fr.sub_cons (by kernel_rfl) (Fr.sub_cons (by kernel_rfl) (Fr.sub_cons (by kernel_rfl) (Fr.sub_cons (by kernel_rfl) (Fr.sub_cons (by kernel_rfl) (Fr.sub_nil _)))))))))) ?_
                refine n65 ?_
                replace hF := lett_some hF; obtain ⟨k67, e67, hF⟩ := hF
                have J67 : ∀ (t6_68 : Int) (h_69 : AHeap), k67 t6_68 h_69 = some (rR, hR) → Go w0 m0 (Func.ntmps Try.f6) (K64 .normal) [(1, .int .i64 t1), (5, r19), (6, .int .i64 t6_68), (9, .bool t30), (10, .int .i64 t10), (23, t0), (24, .int .i64 t24), (25, .int .i64 t25)] [] h_69 := by
                  intro t6_68 h_69 hF
                  rw [e67] at hF
                  refine n64 ?_
                  refine W.seqK (by kernel_rfl) (fun K70 n70 e70 q70 p70 => ?_)
                  refine W.region (by kernel_rfl) ?_
                  refine WL.val (d := (some 64)) (v := .bool t30) (h' := h_69) (by kernel_rfl) (by kernel_rfl) (by kernel_rfl) ?_
                  refine WL.val (d := (some 65)) (v := .int .i64 t6_68) (h' := h_69) (by kernel_rfl) (by kernel_rfl) (by kernel_rfl) ?_
                  refine WL.val (d := (some 66)) (v := .int .i64 t1) (h' := h_69) (by kernel_rfl) (by kernel_rfl) (by kernel_rfl) ?_
                  replace hF := lett_some hF; obtain ⟨t67, e71, hF⟩ := hF
                  refine WL.val (d := (some 67)) (v := .bool t67) (h' := h_69) (by kernel_rfl) (by kernel_rfl) (val_of AV.bool e71 (by kernel_rfl)) ?_
                  refine WL.val (d := (some 68)) (v := .bool t67) (h' := h_69) (by kernel_rfl) (by kernel_rfl) (by kernel_rfl) ?_
                  replace hF := lett_some hF; obtain ⟨j71, e73, hF⟩ := hF
                  have J74 : ∀ (t71 : Bool) (h_72 : AHeap), j71 t71 h_72 = some (rR, hR) → WL Try.prog w0 m0 (Func.ntmps Try.f6) (Code.ops (Code.p1 (Code.p2 (Code.p2 (Code.p2 (Code.p2 (Code.p2 (Code.p1 (Code.p1 (Code.p2 (Code.p2 (Code.p1 (Code.p1 (Code.p2 (Code.p1 (Code.p2 (Code.p2 (Code.p2 (Code.p2 (Code.p2 (Code.p2 (codeOf Try.f6)))))))))))))))))))))) 8 K70 [(1, .int .i64 t1), (5, r19), (6, .int .i64 t6_68), (9, .bool t30), (10, .int .i64 t10), (23, t0), (24, .int .i64 t24), (25, .int .i64 t25), (64, .bool t30), (71, .bool t71)] [] h_72 := by
                    intro t71 h_72 hF
                    rw [e73] at hF
                    replace hF := lett_some hF; obtain ⟨t72, e75, hF⟩ := hF
                    refine WL.val (d := (some 72)) (v := .bool t72) (h' := h_72) (by kernel_rfl) (by kernel_rfl) (val_of AV.bool e75 (by kernel_rfl)) ?_
                    refine WL.val (d := (some 73)) (v := .bool t72) (h' := h_72) (by kernel_rfl) (by kernel_rfl) (by kernel_rfl) ?_
                    replace hF := lett_some hF; obtain ⟨j78, e77, hF⟩ := hF
                    have J78 : ∀ (t78 : Bool) (h_76 : AHeap), j78 t78 h_76 = some (rR, hR) → WL Try.prog w0 m0 (Func.ntmps Try.f6) (Code.ops (Code.p1 (Code.p2 (Code.p2 (Code.p2 (Code.p2 (Code.p2 (Code.p1 (Code.p1 (Code.p2 (Code.p2 (Code.p1 (Code.p1 (Code.p2 (Code.p1 (Code.p2 (Code.p2 (Code.p2 (Code.p2 (Code.p2 (Code.p2 (codeOf Try.f6)))))))))))))))))))))) 15 K70 [(1, .int .i64 t1), (5, r19), (6, .int .i64 t6_68), (23, t0), (24, .int .i64 t24), (25, .int .i64 t25), (78, .bool t78)] [] h_76 := by
                      intro t78 h_76 hF
                      rw [e77] at hF
                      refine WL.val (d := (some 79)) (v := .bool t78) (h' := h_76) (by kernel_rfl) (by kernel_rfl) (by kernel_rfl) ?_
                      replace hF := lett_some hF; obtain ⟨j84, e80, hF⟩ := hF
                      have J81 : ∀ (t84 : Bool) (h_79 : AHeap), j84 t84 h_79 = some (rR, hR) → WL Try.prog w0 m0 (Func.ntmps Try.f6) (Code.ops (Code.p1 (Code.p2 (Code.p2 (Code.p2 (Code.p2 (Code.p2 (Code.p1 (Code.p1 (Code.p2 (Code.p2 (Code.p1 (Code.p1 (Code.p2 (Code.p1 (Code.p2 (Code.p2 (Code.p2 (Code.p2 (Code.p2 (Code.p2 (codeOf Try.f6)))))))))))))))))))))) 21 K70 [(1, .int .i64 t1), (5, r19), (6, .int .i64 t6_68), (23, t0), (24, .int .i64 t24), (25, .int .i64 t25), (84, .bool t84)] [] h_79 := by
                        intro t84 h_79 hF
                        rw [e80] at hF
                        refine WL.val (d := (some 85)) (v := .bool t84) (h' := h_79) (by kernel_rfl) (by kernel_rfl) (by kernel_rfl) ?_
                        replace hF := lett_some hF; obtain ⟨j92, e83, hF⟩ := hF
                        have J84 : ∀ (t92 : Bool) (h_82 : AHeap), j92 t92 h_82 = some (rR, hR) → WL Try.prog w0 m0 (Func.ntmps Try.f6) (Code.ops (Code.p1 (Code.p2 (Code.p2 (Code.p2 (Code.p2 (Code.p2 (Code.p1 (Code.p1 (Code.p2 (Code.p2 (Code.p1 (Code.p1 (Code.p2 (Code.p1 (Code.p2 (Code.p2 (Code.p2 (Code.p2 (Code.p2 (Code.p2 (codeOf Try.f6)))))))))))))))))))))) 29 K70 [(1, .int .i64 t1), (5, r19), (6, .int .i64 t6_68), (23, t0), (24, .int .i64 t24), (25, .int .i64 t25), (92, .bool t92)] [] h_82 := by
                          intro t92 h_82 hF
                          rw [e83] at hF
                          refine WL.nil (by kernel_rfl) ?_
                          refine Go.weaken (l' := [(1, .int .i64 t1), (5, r19), (6, .int .i64 t6_68), (23, t0), (24, .int .i64 t24), (25, .int .i64 t25), (92, .bool t92)]) (Fr.sub_cons (by kernel_rfl) (Fr.sub_cons (by kernel_rfl) (Fr.sub_cons (by kernel_rfl) (Fr.sub_cons (by kernel_rfl) (Fr.sub_cons (by kernel_rfl) (Fr.sub_cons (by kernel_rfl) (Fr.sub_cons (by kernel_rfl) (Fr.sub_nil _)))))))) ?_
                          refine n70 ?_
                          cases t92 with
                          | true =>
                            replace hF := ifB_t hF
                            refine W.cond_true (by kernel_rfl) (by kernel_rfl) ?_
                            refine W.seqK (by kernel_rfl) (fun K85 n85 e85 q85 p85 => ?_)
                            refine W.region (by kernel_rfl) ?_
                            refine WL.val (d := (some 4)) (v := .bool false) (h' := h_82) (by kernel_rfl) (by kernel_rfl) (by kernel_rfl) ?_
                            refine WL.nil (by kernel_rfl) ?_
                            refine Go.weaken (l' := [(4, .bool false)]) (Fr.sub_cons (by kernel_rfl) (Fr.sub_nil _)) ?_
                            refine n85 ?_
                            refine W.ret (by kernel_rfl) ?_
                            refine q41 ?_
                            refine q40 ?_
                            refine q34 ?_
                            refine q29 ?_
                            refine q26 ?_
                            obtain ⟨hF, hF2⟩ := ret_inj hF; subst hF; subst hF2
                            exact leave_of (rs := [.tmp 4]) (vs := [.bool false]) (by kernel_rfl) (res_tmp (by kernel_rfl) res_nil) (by kernel_rfl)
                          | false =>
                            replace hF := ifB_f hF
                            refine W.cond_false (by kernel_rfl) (by kernel_rfl) ?_
                            refine W.skip (by kernel_rfl) ?_
                            refine n41 ?_
                            refine n40 ?_
                            refine W.region (by kernel_rfl) ?_
                            replace hF := lett_some hF; obtain ⟨t93, e86, hF⟩ := hF
                            refine WL.val (d := (some 93)) (v := .int .i64 t93) (h' := h_82) (by kernel_rfl) (by kernel_rfl) (val_of (AV.int .i64) e86 (by kernel_rfl)) ?_
                            refine WL.val (d := (some 25)) (v := .int .i64 t93) (h' := h_82) (by kernel_rfl) (by kernel_rfl) (by kernel_rfl) ?_
                            refine WL.nil (by kernel_rfl) ?_
                            refine Go.weaken (l' := [(1, .int .i64 t1), (5, r19), (6, .int .i64 t6_68), (23, t0), (24, .int .i64 t24), (25, .int .i64 t93)]) (Fr.sub_cons (by kernel_rfl) (Fr.sub_cons (by kernel_rfl) (Fr.sub_cons (by kernel_rfl) (Fr.sub_cons (by kernel_rfl) (Fr.sub_cons (by kernel_rfl) (Fr.sub_cons (by kernel_rfl) (Fr.sub_nil _))))))) ?_
                            refine n34 ?_
                            exact Go.weaken (Fr.sub_cons (by kernel_rfl) (Fr.sub_cons (by kernel_rfl) (Fr.sub_cons (by kernel_rfl) (Fr.sub_cons (by kernel_rfl) (Fr.sub_cons (by kernel_rfl) (Fr.sub_cons (by kernel_rfl) (Fr.sub_nil _))))))) (ih34 _ _ _ hF)
                        cases t84 with
                        | true =>
                          replace hF := ifB_t hF
                          refine WL.not (d := (some 86)) (by kernel_rfl) (by kernel_rfl) ?_
                          refine WL.not (d := (some 87)) (by kernel_rfl) (by kernel_rfl) ?_
                          refine WL.not (d := (some 88)) (by kernel_rfl) (by kernel_rfl) ?_
                          refine WL.not (d := (some 89)) (by kernel_rfl) (by kernel_rfl) ?_
                          refine WL.not (d := (some 90)) (by kernel_rfl) (by kernel_rfl) ?_
                          refine WL.not (d := (some 91)) (by kernel_rfl) (by kernel_rfl) ?_
                          refine WL.val (d := (some 92)) (v := .bool true) (h' := h_79) (by kernel_rfl) (by kernel_rfl) (by kernel_rfl) ?_
                          exact WL.weaken (Fr.sub_cons (by kernel_rfl) (Fr.sub_cons (by kernel_rfl) (Fr.sub_cons (by kernel_rfl) (Fr.sub_cons (by kernel_rfl) (Fr.sub_cons (by kernel_rfl) (Fr.sub_cons (by kernel_rfl) (Fr.sub_cons (by kernel_rfl) (Fr.sub_nil _)))))))) (J84 _ _ hF)
                        | false =>
                          replace hF := ifB_f hF
                          refine WL.val (d := (some 86)) (v := r19) (h' := h_79) (by kernel_rfl) (by kernel_rfl) (by kernel_rfl) ?_
                          replace hF := callN_some hF; obtain ⟨r87, h_87, e88, hF⟩ := hF
                          replace hF := obind_some hF; obtain ⟨t87, c89, hF⟩ := hF
                          have c89 := avBool_some c89
                          subst c89
                          refine WL.call (hc.ok w0) (d := (some 87)) (by kernel_rfl) (by kernel_rfl) (by kernel_rfl) e88 ?_
                          refine WL.val (d := (some 88)) (v := .int .i64 t6_68) (h' := h_87) (by kernel_rfl) (by kernel_rfl) (by kernel_rfl) ?_
                          refine WL.val (d := (some 89)) (v := .int .i64 t1) (h' := h_87) (by kernel_rfl) (by kernel_rfl) (by kernel_rfl) ?_
                          replace hF := lett_some hF; obtain ⟨t90, e90, hF⟩ := hF
                          refine WL.val (d := (some 90)) (v := .bool t90) (h' := h_87) (by kernel_rfl) (by kernel_rfl) (val_of AV.bool e90 (by kernel_rfl)) ?_
                          replace hF := lett_some hF; obtain ⟨t91, e91, hF⟩ := hF
                          refine WL.val (d := (some 91)) (v := .bool t91) (h' := h_87) (by kernel_rfl) (by kernel_rfl) (val_of AV.bool e91 (by kernel_rfl)) ?_
                          refine WL.val (d := (some 92)) (v := .bool t91) (h' := h_87) (by kernel_rfl) (by kernel_rfl) (by kernel_rfl) ?_
                          exact WL.weaken (Fr.sub_cons (by kernel_rfl) (Fr.sub_cons (by kernel_rfl) (Fr.sub_cons (by kernel_rfl) (Fr.sub_cons (by kernel_rfl) (Fr.sub_cons (by kernel_rfl) (Fr.sub_cons (by kernel_rfl) (Fr.sub_cons (by kernel_rfl) (Fr.sub_nil _)))))))) (J84 _ _ hF)
                      cases t78 with
                      | true =>
                        replace hF := ifB_t hF
                        refine WL.not (d := (some 80)) (by kernel_rfl) (by kernel_rfl) ?_
                        refine WL.not (d := (some 81)) (by kernel_rfl) (by kernel_rfl) ?_
                        refine WL.not (d := (some 82)) (by kernel_rfl) (by kernel_rfl) ?_
                        refine WL.not (d := (some 83)) (by kernel_rfl) (by kernel_rfl) ?_
                        refine WL.val (d := (some 84)) (v := .bool true) (h' := h_76) (by kernel_rfl) (by kernel_rfl) (by kernel_rfl) ?_
                        exact WL.weaken (Fr.sub_cons (by kernel_rfl) (Fr.sub_cons (by kernel_rfl) (Fr.sub_cons (by kernel_rfl) (Fr.sub_cons (by kernel_rfl) (Fr.sub_cons (by kernel_rfl) (Fr.sub_cons (by kernel_rfl) (Fr.sub_cons (by kernel_rfl) (Fr.sub_nil _)))))))) (J81 _ _ hF)
                      | false =>
                        replace hF := ifB_f hF
                        refine WL.val (d := (some 80)) (v := r19) (h' := h_76) (by kernel_rfl) (by kernel_rfl) (by kernel_rfl) ?_
                        replace hF := callN_some hF; obtain ⟨r81, h_92, e93, hF⟩ := hF
                        replace hF := obind_some hF; obtain ⟨t81, c94, hF⟩ := hF
                        have c94 := avInt_some c94
                        subst c94
                        refine WL.call (hc.ok w0) (d := (some 81)) (by kernel_rfl) (by kernel_rfl) (by kernel_rfl) e93 ?_
                        refine WL.val (d := (some 82)) (v := .int .i64 t6_68) (h' := h_92) (by kernel_rfl) (by kernel_rfl) (by kernel_rfl) ?_
                        replace hF := lett_some hF; obtain ⟨t83, e95, hF⟩ := hF
                        refine WL.val (d := (some 83)) (v := .bool t83) (h' := h_92) (by kernel_rfl) (by kernel_rfl) (val_of AV.bool e95 (by kernel_rfl)) ?_
                        refine WL.val (d := (some 84)) (v := .bool t83) (h' := h_92) (by kernel_rfl) (by kernel_rfl) (by kernel_rfl) ?_
                        exact WL.weaken (Fr.sub_cons (by kernel_rfl) (Fr.sub_cons (by kernel_rfl) (Fr.sub_cons (by kernel_rfl) (Fr.sub_cons (by kernel_rfl) (Fr.sub_cons (by kernel_rfl) (Fr.sub_cons (by kernel_rfl) (Fr.sub_cons (by kernel_rfl) (Fr.sub_nil _)))))))) (J81 _ _ hF)
                    cases t72 with
                    | true =>
                      replace hF := ifB_t hF
                      refine WL.not (d := (some 74)) (by kernel_rfl) (by kernel_rfl) ?_
                      refine WL.not (d := (some 75)) (by kernel_rfl) (by kernel_rfl) ?_
                      refine WL.not (d := (some 76)) (by kernel_rfl) (by kernel_rfl) ?_
                      refine WL.not (d := (some 77)) (by kernel_rfl) (by kernel_rfl) ?_
                      refine WL.val (d := (some 78)) (v := .bool true) (h' := h_72) (by kernel_rfl) (by kernel_rfl) (by kernel_rfl) ?_
                      exact WL.weaken (Fr.sub_cons (by kernel_rfl) (Fr.sub_cons (by kernel_rfl) (Fr.sub_cons (by kernel_rfl) (Fr.sub_cons (by kernel_rfl) (Fr.sub_cons (by kernel_rfl) (Fr.sub_cons (by kernel_rfl) (Fr.sub_cons (by kernel_rfl) (Fr.sub_nil _)))))))) (J78 _ _ hF)
                    | false =>
                      replace hF := ifB_f hF
                      refine WL.val (d := (some 74)) (v := .bool t30) (h' := h_72) (by kernel_rfl) (by kernel_rfl) (by kernel_rfl) ?_
                      refine WL.val (d := (some 75)) (v := .int .i64 t10) (h' := h_72) (by kernel_rfl) (by kernel_rfl) (by kernel_rfl) ?_
                      replace hF := lett_some hF; obtain ⟨t76, e96, hF⟩ := hF
                      refine WL.val (d := (some 76)) (v := .bool t76) (h' := h_72) (by kernel_rfl) (by kernel_rfl) (val_of AV.bool e96 (by kernel_rfl)) ?_
                      replace hF := lett_some hF; obtain ⟨t77, e97, hF⟩ := hF
                      refine WL.val (d := (some 77)) (v := .bool t77) (h' := h_72) (by kernel_rfl) (by kernel_rfl) (val_of AV.bool e97 (by kernel_rfl)) ?_
                      refine WL.val (d := (some 78)) (v := .bool t77) (h' := h_72) (by kernel_rfl) (by kernel_rfl) (by kernel_rfl) ?_
                      exact WL.weaken (Fr.sub_cons (by kernel_rfl) (Fr.sub_cons (by kernel_rfl) (Fr.sub_cons (by kernel_rfl) (Fr.sub_cons (by kernel_rfl) (Fr.sub_cons (by kernel_rfl) (Fr.sub_cons (by kernel_rfl) (Fr.sub_cons (by kernel_rfl) (Fr.sub_nil _)))))))) (J78 _ _ hF)
                  cases t67 with
                  | true =>
                    replace hF := ifB_t hF
                    refine WL.not (d := (some 69)) (by kernel_rfl) (by kernel_rfl) ?_
                    refine WL.not (d := (some 70)) (by kernel_rfl) (by kernel_rfl) ?_
                    refine WL.val (d := (some 71)) (v := .bool true) (h' := h_69) (by kernel_rfl) (by kernel_rfl) (by kernel_rfl) ?_
                    exact WL.weaken (Fr.sub_cons (by kernel_rfl) (Fr.sub_cons (by kernel_rfl) (Fr.sub_cons (by kernel_rfl) (Fr.sub_cons (by kernel_rfl) (Fr.sub_cons (by kernel_rfl) (Fr.sub_cons (by kernel_rfl) (Fr.sub_cons (by kernel_rfl) (Fr.sub_cons (by kernel_rfl) (Fr.sub_cons (by kernel_rfl) (Fr.sub_cons (by kernel_rfl) (Fr.sub_nil _))))))))))) (J74 _ _ hF)
                  | false =>
                    replace hF := ifB_f hF
                    refine WL.val (d := (some 69)) (v := .int .i64 t10) (h' := h_69) (by kernel_rfl) (by kernel_rfl) (by kernel_rfl) ?_
                    replace hF := lett_some hF; obtain ⟨t70, e98, hF⟩ := hF
                    refine WL.val (d := (some 70)) (v := .bool t70) (h' := h_69) (by kernel_rfl) (by kernel_rfl) (val_of AV.bool e98 (by kernel_rfl)) ?_
                    refine WL.val (d := (some 71)) (v := .bool t70) (h' := h_69) (by kernel_rfl) (by kernel_rfl) (by kernel_rfl) ?_
                    exact WL.weaken (Fr.sub_cons (by kernel_rfl) (Fr.sub_cons (by kernel_rfl) (Fr.sub_cons (by kernel_rfl) (Fr.sub_cons (by kernel_rfl) (Fr.sub_cons (by kernel_rfl) (Fr.sub_cons (by kernel_rfl) (Fr.sub_cons (by kernel_rfl) (Fr.sub_cons (by kernel_rfl) (Fr.sub_cons (by kernel_rfl) (Fr.sub_cons (by kernel_rfl) (Fr.sub_nil _))))))))))) (J74 _ _ hF)
                cases t61 with
                | true =>
                  replace hF := ifB_t hF
                  refine W.cond_true (by kernel_rfl) (by kernel_rfl) ?_
                  refine W.region (by kernel_rfl) ?_
                  refine WL.val (d := (some 62)) (v := .int .i64 t6_35) (h' := h_63) (by kernel_rfl) (by kernel_rfl) (by kernel_rfl) ?_
                  replace hF := lett_some hF; obtain ⟨t63, e99, hF⟩ := hF
                  refine WL.val (d := (some 63)) (v := .int .i64 t63) (h' := h_63) (by kernel_rfl) (by kernel_rfl) (val_of (AV.int .i64) e99 (by kernel_rfl)) ?_
                  refine WL.val (d := (some 6)) (v := .int .i64 t63) (h' := h_63) (by kernel_rfl) (by kernel_rfl) (by kernel_rfl) ?_
                  refine WL.nil (by kernel_rfl) ?_
                  refine Go.weaken (l' := [(1, .int .i64 t1), (5, r19), (6, .int .i64 t63), (9, .bool t30), (10, .int .i64 t10), (23, t0), (24, .int .i64 t24), (25, .int .i64 t25)]) (Fr.sub_cons (by kernel_rfl) (Fr.sub_cons (by kernel_rfl) (Fr.sub_cons (by kernel_rfl) (Fr.sub_cons (by kernel_rfl) (Fr.sub_cons (by kernel_rfl) (Fr.sub_cons (by kernel_rfl) (Fr.sub_cons (by kernel_rfl) (Fr.sub_cons (by kernel_rfl) (Fr.sub_nil _))))))))) ?_
                  exact Go.weaken (Fr.sub_cons (by kernel_rfl) (Fr.sub_cons (by kernel_rfl) (Fr.sub_cons (by kernel_rfl) (Fr.sub_cons (by kernel_rfl) (Fr.sub_cons (by kernel_rfl) (Fr.sub_cons (by kernel_rfl) (Fr.sub_cons (by kernel_rfl) (Fr.sub_cons (by kernel_rfl) (Fr.sub_nil _))))))))) (J67 _ _ hF)
                | false =>
                  replace hF := ifB_f hF
                  refine W.cond_false (by kernel_rfl) (by kernel_rfl) ?_
                  refine W.skip (by kernel_rfl) ?_
                  exact Go.weaken (Fr.sub_cons (by kernel_rfl) (Fr.sub_cons (by kernel_rfl) (Fr.sub_cons (by kernel_rfl) (Fr.sub_cons (by kernel_rfl) (Fr.sub_cons (by kernel_rfl) (Fr.sub_cons (by kernel_rfl) (Fr.sub_cons (by kernel_rfl) (Fr.sub_cons (by kernel_rfl) (Fr.sub_nil _))))))))) (J67 _ _ hF)
              cases t39 with
              | true =>
                replace hF := ifB_t hF
                refine W.cond_true (by kernel_rfl) (by kernel_rfl) ?_
                refine W.region (by kernel_rfl) ?_
                refine WL.val (d := (some 40)) (v := r19) (h' := h_50) (by kernel_rfl) (by kernel_rfl) (by kernel_rfl) ?_
                refine WL.val (d := (some 41)) (v := (AV.ptr (AHeap.next h_36) 1)) (h' := h_50) (by kernel_rfl) (by kernel_rfl) (by kernel_rfl) ?_
                replace hF := obind_some hF; obtain ⟨v42, e100, hF⟩ := hF
                replace hF := obind_some hF; obtain ⟨t42, c101, hF⟩ := hF
                have c101 := avInt_some c101
                subst c101
                refine WL.val (d := (some 42)) (v := .int .i64 t42) (h' := h_50) (by kernel_rfl) (by kernel_rfl) (Eq.trans (by kernel_rfl) (load_cell (P := Try.prog) (h := h_50) (t := 3) (by kernel_rfl) e100)) ?_
                refine WL.val (d := (some 43)) (v := (AV.ptr (AHeap.next h_36) 3)) (h' := h_50) (by kernel_rfl) (by kernel_rfl) (by kernel_rfl) ?_
                replace hF := obind_some hF; obtain ⟨v44, e102, hF⟩ := hF
                replace hF := obind_some hF; obtain ⟨t44, c103, hF⟩ := hF
                have c103 := avStr_some c103
                subst c103
                refine WL.val (d := (some 44)) (v := strA t44) (h' := h_50) (by kernel_rfl) (by kernel_rfl) (Eq.trans (by kernel_rfl) (load_cell (P := Try.prog) (h := h_50) (t := 9) (by kernel_rfl) e102)) ?_
                replace hF := callN_some hF; obtain ⟨r45, h_104, e105, hF⟩ := hF
                replace hF := obind_some hF; obtain ⟨t45, c106, hF⟩ := hF
                have c106 := avInt_some c106
                subst c106
                refine WL.call (hc.ok w0) (d := (some 45)) (by kernel_rfl) (by kernel_rfl) (by kernel_rfl) e105 ?_
                refine WL.val (d := (some 10)) (v := .int .i64 t45) (h' := h_104) (by kernel_rfl) (by kernel_rfl) (by kernel_rfl) ?_
                refine WL.nil (by kernel_rfl) ?_
                refine Go.weaken (l' := [(1, .int .i64 t1), (5, r19), (6, .int .i64 t6_35), (9, .bool t30), (10, .int .i64 t45), (23, t0), (24, .int .i64 t24), (25, .int .i64 t25)]) (Fr.sub_cons (by kernel_rfl) (Fr.sub_cons (by kernel_rfl) (Fr.sub_cons (by kernel_rfl) (Fr.sub_cons (by kernel_rfl) (Fr.sub_cons (by kernel_rfl) (Fr.sub_cons (by kernel_rfl) (Fr.sub_cons (by kernel_rfl) (Fr.sub_cons (by kernel_rfl) (Fr.sub_nil _))))))))) ?_
                exact Go.weaken (Fr.sub_cons (by kernel_rfl) (Fr.sub_cons (by kernel_rfl) (Fr.sub_cons (by kernel_rfl) (Fr.sub_cons (by kernel_rfl) (Fr.sub_cons (by kernel_rfl) (Fr.sub_cons (by kernel_rfl) (Fr.sub_cons (by kernel_rfl) (Fr.sub_cons (by kernel_rfl) (Fr.sub_nil _))))))))) (J62 _ _ hF)
              | false =>
                replace hF := ifB_f hF
                refine W.cond_false (by kernel_rfl) (by kernel_rfl) ?_
                refine W.seqK (by kernel_rfl) (fun K107 n107 e107 q107 p107 => ?_)
                refine W.region (by kernel_rfl) ?_
                replace hF := lett_some hF; obtain ⟨t47, e108, hF⟩ := hF
                refine WL.val (d := (some 47)) (v := .bool t47) (h' := h_50) (by kernel_rfl) (by kernel_rfl) (val_of AV.bool e108 (by kernel_rfl)) ?_
                refine WL.val (d := (some 46)) (v := .bool t47) (h' := h_50) (by kernel_rfl) (by kernel_rfl) (by kernel_rfl) ?_
                refine WL.nil (by kernel_rfl) ?_
                refine Go.weaken (l' := [(1, .int .i64 t1), (5, r19), (6, .int .i64 t6_35), (8, (newP h_36)), (9, .bool t30), (23, t0), (24, .int .i64 t24), (25, .int .i64 t25), (33, .int .i64 t33), (46, .bool t47)]) (Fr.sub_cons (by kernel_rfl) (Fr.sub_cons (by kernel_rfl) (Fr.sub_cons (by kernel_rfl) (Fr.sub_cons (by kernel_rfl) (Fr.sub_cons (by kernel_rfl) (Fr.sub_cons (by kernel_rfl) (Fr.sub_cons (by kernel_rfl) (Fr.sub_cons (by kernel_rfl) (Fr.sub_cons (by kernel_rfl) (Fr.sub_cons (by kernel_rfl) (Fr.sub_nil _))))))))))) ?_
                refine n107 ?_
                replace hF := lett_some hF; obtain ⟨k109, e109, hF⟩ := hF
                have J109 : ∀ (t10_110 : Int) (h_111 : AHeap), k109 t10_110 h_111 = some (rR, hR) → Go w0 m0 (Func.ntmps Try.f6) (K59 .normal) [(1, .int .i64 t1), (5, r19), (6, .int .i64 t6_35), (9, .bool t30), (10, .int .i64 t10_110), (23, t0), (24, .int .i64 t24), (25, .int .i64 t25)] [] h_111 := by
                  intro t10_110 h_111 hF
                  rw [e109] at hF
                  exact Go.weaken (Fr.sub_cons (by kernel_rfl) (Fr.sub_cons (by kernel_rfl) (Fr.sub_cons (by kernel_rfl) (Fr.sub_cons (by kernel_rfl) (Fr.sub_cons (by kernel_rfl) (Fr.sub_cons (by kernel_rfl) (Fr.sub_cons (by kernel_rfl) (Fr.sub_cons (by kernel_rfl) (Fr.sub_nil _))))))))) (J62 _ _ hF)
                cases t47 with
                | true =>
                  replace hF := ifB_t hF
                  refine W.cond_true (by kernel_rfl) (by kernel_rfl) ?_
                  refine W.region (by kernel_rfl) ?_
                  refine WL.val (d := (some 48)) (v := r19) (h' := h_50) (by kernel_rfl) (by kernel_rfl) (by kernel_rfl) ?_
                  refine WL.val (d := (some 49)) (v := (AV.ptr (AHeap.next h_36) 1)) (h' := h_50) (by kernel_rfl) (by kernel_rfl) (by kernel_rfl) ?_
                  replace hF := obind_some hF; obtain ⟨v50, e112, hF⟩ := hF
                  replace hF := obind_some hF; obtain ⟨t50, c113, hF⟩ := hF
                  have c113 := avInt_some c113
                  subst c113
                  refine WL.val (d := (some 50)) (v := .int .i64 t50) (h' := h_50) (by kernel_rfl) (by kernel_rfl) (Eq.trans (by kernel_rfl) (load_cell (P := Try.prog) (h := h_50) (t := 3) (by kernel_rfl) e112)) ?_
                  refine WL.val (d := (some 51)) (v := (AV.ptr (AHeap.next h_36) 2)) (h' := h_50) (by kernel_rfl) (by kernel_rfl) (by kernel_rfl) ?_
                  replace hF := obind_some hF; obtain ⟨v52, e114, hF⟩ := hF
                  replace hF := obind_some hF; obtain ⟨t52, c115, hF⟩ := hF
                  have c115 := avInt_some c115
                  subst c115
                  refine WL.val (d := (some 52)) (v := .int .i64 t52) (h' := h_50) (by kernel_rfl) (by kernel_rfl) (Eq.trans (by kernel_rfl) (load_cell (P := Try.prog) (h := h_50) (t := 3) (by kernel_rfl) e114)) ?_
                  replace hF := callN_some hF; obtain ⟨r53, h_116, e117, hF⟩ := hF
                  replace hF := obind_some hF; obtain ⟨t53, c118, hF⟩ := hF
                  have c118 := avInt_some c118
                  subst c118
                  refine WL.call (hc.ok w0) (d := (some 53)) (by kernel_rfl) (by kernel_rfl) (by kernel_rfl) e117 ?_
                  refine WL.val (d := (some 10)) (v := .int .i64 t53) (h' := h_116) (by kernel_rfl) (by kernel_rfl) (by kernel_rfl) ?_
                  refine WL.nil (by kernel_rfl) ?_
                  refine Go.weaken (l' := [(1, .int .i64 t1), (5, r19), (6, .int .i64 t6_35), (9, .bool t30), (10, .int .i64 t53), (23, t0), (24, .int .i64 t24), (25, .int .i64 t25)]) (Fr.sub_cons (by kernel_rfl) (Fr.sub_cons (by kernel_rfl) (Fr.sub_cons (by kernel_rfl) (Fr.sub_cons (by kernel_rfl) (Fr.sub_cons (by kernel_rfl) (Fr.sub_cons (by kernel_rfl) (Fr.sub_cons (by kernel_rfl) (Fr.sub_cons (by kernel_rfl) (Fr.sub_nil _))))))))) ?_
                  exact Go.weaken (Fr.sub_cons (by kernel_rfl) (Fr.sub_cons (by kernel_rfl) (Fr.sub_cons (by kernel_rfl) (Fr.sub_cons (by kernel_rfl) (Fr.sub_cons (by kernel_rfl) (Fr.sub_cons (by kernel_rfl) (Fr.sub_cons (by kernel_rfl) (Fr.sub_cons (by kernel_rfl) (Fr.sub_nil _))))))))) (J109 _ _ hF)
                | false =>
                  replace hF := ifB_f hF
                  refine W.cond_false (by kernel_rfl) (by kernel_rfl) ?_
                  refine W.seqK (by kernel_rfl) (fun K119 n119 e119 q119 p119 => ?_)
                  refine W.region (by kernel_rfl) ?_
                  replace hF := lett_some hF; obtain ⟨t55, e120, hF⟩ := hF
                  refine WL.val (d := (some 55)) (v := .bool t55) (h' := h_50) (by kernel_rfl) (by kernel_rfl) (val_of AV.bool e120 (by kernel_rfl)) ?_
                  refine WL.val (d := (some 54)) (v := .bool t55) (h' := h_50) (by kernel_rfl) (by kernel_rfl) (by kernel_rfl) ?_
                  refine WL.nil (by kernel_rfl) ?_
                  refine Go.weaken (l' := [(1, .int .i64 t1), (5, r19), (6, .int .i64 t6_35), (8, (newP h_36)), (9, .bool t30), (23, t0), (24, .int .i64 t24), (25, .int .i64 t25), (54, .bool t55)]) (Fr.sub_cons (by kernel_rfl) (Fr.sub_cons (by kernel_rfl) (Fr.sub_cons (by kernel_rfl) (Fr.sub_cons (by kernel_rfl) (Fr.sub_cons (by kernel_rfl) (Fr.sub_cons (by kernel_rfl) (Fr.sub_cons (by kernel_rfl) (Fr.sub_cons (by kernel_rfl) (Fr.sub_cons (by kernel_rfl) (Fr.sub_nil _)))))))))) ?_
                  refine n119 ?_
                  replace hF := lett_some hF; obtain ⟨k121, e121, hF⟩ := hF
                  have J121 : ∀ (t10_122 : Int) (h_123 : AHeap), k121 t10_122 h_123 = some (rR, hR) → Go w0 m0 (Func.ntmps Try.f6) (K59 .normal) [(1, .int .i64 t1), (5, r19), (6, .int .i64 t6_35), (9, .bool t30), (10, .int .i64 t10_122), (23, t0), (24, .int .i64 t24), (25, .int .i64 t25)] [] h_123 := by
                    intro t10_122 h_123 hF
                    rw [e121] at hF
                    exact Go.weaken (Fr.sub_cons (by kernel_rfl) (Fr.sub_cons (by kernel_rfl) (Fr.sub_cons (by kernel_rfl) (Fr.sub_cons (by kernel_rfl) (Fr.sub_cons (by kernel_rfl) (Fr.sub_cons (by kernel_rfl) (Fr.sub_cons (by kernel_rfl) (Fr.sub_cons (by kernel_rfl) (Fr.sub_nil _))))))))) (J109 _ _ hF)
                  cases t55 with
                  | true =>
                    replace hF := ifB_t hF
                    refine W.cond_true (by kernel_rfl) (by kernel_rfl) ?_
                    refine W.region (by kernel_rfl) ?_
                    refine WL.val (d := (some 56)) (v := r19) (h' := h_50) (by kernel_rfl) (by kernel_rfl) (by kernel_rfl) ?_
                    refine WL.val (d := (some 57)) (v := (AV.ptr (AHeap.next h_36) 1)) (h' := h_50) (by kernel_rfl) (by kernel_rfl) (by kernel_rfl) ?_
                    replace hF := obind_some hF; obtain ⟨v58, e124, hF⟩ := hF
                    replace hF := obind_some hF; obtain ⟨t58, c125, hF⟩ := hF
                    have c125 := avInt_some c125
                    subst c125
                    refine WL.val (d := (some 58)) (v := .int .i64 t58) (h' := h_50) (by kernel_rfl) (by kernel_rfl) (Eq.trans (by kernel_rfl) (load_cell (P := Try.prog) (h := h_50) (t := 3) (by kernel_rfl) e124)) ?_
                    replace hF := callN_some hF; obtain ⟨r59, h_126, e127, hF⟩ := hF
                    replace hF := obind_some hF; obtain ⟨t59, c128, hF⟩ := hF
                    have c128 := avInt_some c128
                    subst c128
                    refine WL.call (hc.ok w0) (d := (some 59)) (by kernel_rfl) (by kernel_rfl) (by kernel_rfl) e127 ?_
                    refine WL.val (d := (some 10)) (v := .int .i64 t59) (h' := h_126) (by kernel_rfl) (by kernel_rfl) (by kernel_rfl) ?_
                    refine WL.nil (by kernel_rfl) ?_
                    refine Go.weaken (l' := [(1, .int .i64 t1), (5, r19), (6, .int .i64 t6_35), (9, .bool t30), (10, .int .i64 t59), (23, t0), (24, .int .i64 t24), (25, .int .i64 t25)]) (Fr.sub_cons (by kernel_rfl) (Fr.sub_cons (by kernel_rfl) (Fr.sub_cons (by kernel_rfl) (Fr.sub_cons (by kernel_rfl) (Fr.sub_cons (by kernel_rfl) (Fr.sub_cons (by kernel_rfl) (Fr.sub_cons (by kernel_rfl) (Fr.sub_cons (by kernel_rfl) (Fr.sub_nil _))))))))) ?_
                    exact Go.weaken (Fr.sub_cons (by kernel_rfl) (Fr.sub_cons (by kernel_rfl) (Fr.sub_cons (by kernel_rfl) (Fr.sub_cons (by kernel_rfl) (Fr.sub_cons (by kernel_rfl) (Fr.sub_cons (by kernel_rfl) (Fr.sub_cons (by kernel_rfl) (Fr.sub_cons (by kernel_rfl) (Fr.sub_nil _))))))))) (J121 _ _ hF)
                  | false =>
                    replace hF := ifB_f hF
                    refine W.cond_false (by kernel_rfl) (by kernel_rfl) ?_
                    refine W.region (by kernel_rfl) ?_
                    refine WL.val (d := (some 34)) (v := r19) (h' := h_50) (by kernel_rfl) (by kernel_rfl) (by kernel_rfl) ?_
                    refine WL.val (d := (some 35)) (v := (AV.ptr (AHeap.next h_36) 1)) (h' := h_50) (by kernel_rfl) (by kernel_rfl) (by kernel_rfl) ?_
                    replace hF := obind_some hF; obtain ⟨v36, e129, hF⟩ := hF
                    replace hF := obind_some hF; obtain ⟨t36, c130, hF⟩ := hF
                    have c130 := avInt_some c130
                    subst c130
                    refine WL.val (d := (some 36)) (v := .int .i64 t36) (h' := h_50) (by kernel_rfl) (by kernel_rfl) (Eq.trans (by kernel_rfl) (load_cell (P := Try.prog) (h := h_50) (t := 3) (by kernel_rfl) e129)) ?_
                    replace hF := callN_some hF; obtain ⟨r37, h_131, e132, hF⟩ := hF
                    replace hF := obind_some hF; obtain ⟨t37, c133, hF⟩ := hF
                    have c133 := avInt_some c133
                    subst c133
                    refine WL.call (hc.ok w0) (d := (some 37)) (by kernel_rfl) (by kernel_rfl) (by kernel_rfl) e132 ?_
                    refine WL.val (d := (some 10)) (v := .int .i64 t37) (h' := h_131) (by kernel_rfl) (by kernel_rfl) (by kernel_rfl) ?_
                    refine WL.nil (by kernel_rfl) ?_
                    refine Go.weaken (l' := [(1, .int .i64 t1), (5, r19), (6, .int .i64 t6_35), (9, .bool t30), (10, .int .i64 t37), (23, t0), (24, .int .i64 t24), (25, .int .i64 t25)]) (Fr.sub_cons (by kernel_rfl) (Fr.sub_cons (by kernel_rfl) (Fr.sub_cons (by kernel_rfl) (Fr.sub_cons (by kernel_rfl) (Fr.sub_cons (by kernel_rfl) (Fr.sub_cons (by kernel_rfl) (Fr.sub_cons (by kernel_rfl) (Fr.sub_cons (by kernel_rfl) (Fr.sub_nil _))))))))) ?_
                    exact Go.weaken (Fr.sub_cons (by kernel_rfl) (Fr.sub_cons (by kernel_rfl) (Fr.sub_cons (by kernel_rfl) (Fr.sub_cons (by kernel_rfl) (Fr.sub_cons (by kernel_rfl) (Fr.sub_cons (by kernel_rfl) (Fr.sub_cons (by kernel_rfl) (Fr.sub_cons (by kernel_rfl) (Fr.sub_nil _))))))))) (J121 _ _ hF)
            | false =>
              replace hF := ifB_f hF
              refine W.cond_false (by kernel_rfl) (by kernel_rfl) ?_
              refine W.exit (by kernel_rfl) ?_
              refine e39 ?_
              refine e34 ?_
              refine s29 (by kernel_rfl) ?_
              exact Go.weaken (Fr.sub_cons (by kernel_rfl) (Fr.sub_cons (by kernel_rfl) (Fr.sub_nil _))) (J30 _ _ hF)
        exact Go.weaken (Fr.sub_cons (by kernel_rfl) (Fr.sub_cons (by kernel_rfl) (Fr.sub_cons (by kernel_rfl) (Fr.sub_cons (by kernel_rfl) (Fr.sub_cons (by kernel_rfl) (Fr.sub_cons (by kernel_rfl) (Fr.sub_nil _))))))) (L34 _ _ _ _ hF)
    cases t14 with
    | true =>
      replace hF := ifB_t hF
      refine WL.not (d := (some 16)) (by kernel_rfl) (by kernel_rfl) ?_
      refine WL.not (d := (some 17)) (by kernel_rfl) (by kernel_rfl) ?_
      refine WL.val (d := (some 18)) (v := .bool true) (h' := h_11) (by kernel_rfl) (by kernel_rfl) (by kernel_rfl) ?_
      exact WL.weaken (Fr.sub_cons (by kernel_rfl) (Fr.sub_cons (by kernel_rfl) (Fr.sub_cons (by kernel_rfl) (Fr.sub_nil _)))) (J16 _ _ hF)
    | false =>
      replace hF := ifB_f hF
      refine WL.val (d := (some 16)) (v := .int .i64 t1) (h' := h_11) (by kernel_rfl) (by kernel_rfl) (by kernel_rfl) ?_
      replace hF := lett_some hF; obtain ⟨t17, e134, hF⟩ := hF
      refine WL.val (d := (some 17)) (v := .bool t17) (h' := h_11) (by kernel_rfl) (by kernel_rfl) (val_of AV.bool e134 (by kernel_rfl)) ?_
      refine WL.val (d := (some 18)) (v := .bool t17) (h' := h_11) (by kernel_rfl) (by kernel_rfl) (by kernel_rfl) ?_
      exact WL.weaken (Fr.sub_cons (by kernel_rfl) (Fr.sub_cons (by kernel_rfl) (Fr.sub_cons (by kernel_rfl) (Fr.sub_nil _)))) (J16 _ _ hF)
noncomputable def law04_DiskPower_fn (call : CallF) (n : Nat) : FnT := fun args h => match args with
  | [x0, x1] => obind (avInt .i64 x1) fun t1 => law04_DiskPower call n x0 t1 h
  | _ => none
set_option maxRecDepth 100000 in
theorem law04_DiskPower_fn_eq (call : CallF) (n : Nat) (t0 : AV) (t1 : Int) (h : AHeap) : law04_DiskPower_fn call n [t0, .int .i64 t1] h = law04_DiskPower call n t0 t1 h :=
  (Eq.trans (obind_eq (fun t1 => law04_DiskPower call n t0 t1 h) (avInt_int .i64 t1)) rfl)
theorem law04_DiskPower_holds {call : CallF} (hc : SaysAll Try.prog call) (n : Nat) : Holds Try.prog 6 (law04_DiskPower_fn call n) := by
  intro args h r h2 e
  unfold law04_DiskPower_fn at e
  split at e
  · replace e := obind_some e; obtain ⟨t1, c1, e⟩ := e; have c1 := avInt_some c1; subst c1
    exact law04_DiskPower_ok hc e
  · cases e

end Go.Proofs.Ytcbnpdfingfmgaa
