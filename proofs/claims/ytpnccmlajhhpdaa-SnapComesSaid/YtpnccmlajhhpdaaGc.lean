/- Plain functions in place of the program's, and that their calls come to what they say. -/
import Derived.Test.YtpnccmlajhhpdaaFrame
import Derived.Test.YtpnccmlajhhpdaaAbs25
import Derived.Test.YtpnccmlajhhpdaaAbs36
import Derived.Test.YtpnccmlajhhpdaaAbs33
namespace Go.Proofs.Ytpnccmlajhhpdaa
open Go.RowKit Abs

noncomputable def law19_SnapComes_L0b (call : CallF) (t0 : Bytes) (t2 : AV) (v4 : AV) (r31 : AV) (t39 : Int) (k33 : AHeap → R) (self : Int → Int → AHeap → R) (t8 : Int) (t40 : Int) (h_37 : AHeap) : R :=
  lett (decide (t40 < t39)) fun (t41 : Bool) =>
  ifB t41
  (
    obind (lenL t2) fun t46 =>
    lett (decide (t40 < t46)) fun (t47 : Bool) =>
    lett (fun (t54 : Bool) (h_49 : AHeap) =>
      lett (fun (t63 : Bool) (h_52 : AHeap) =>
        lett (fun (t10 : Int) (h_56 : AHeap) =>
          callN (call 10 [strA t0, .int .i64 t10] h_56) fun r71 h_58 =>
          obind (extT 0 r71) fun v72 =>
          obind (avStr v72) fun t72 =>
          obind (extT 1 r71) fun v73 =>
          obind (avInt .i64 v73) fun t73 =>
          lett ((t73 : Int) != 0) fun (t75 : Bool) =>
          ifB t75
          (
            some (.ret (.bool false), h_58))
          (
            obind (fldP 0 v4) fun t78 =>
            obind (ldCell h_58 t78) fun v79 =>
            obind (avInt .i64 v79) fun t79 =>
            obind (fldP 1 v4) fun t80 =>
            obind (ldCell h_58 t80) fun v81 =>
            obind (avInt .i64 v81) fun t81 =>
            callN (call 12 [r31, .agg ([.int .u8 0, .int .i64 0, .int .i64 0, .int .i64 0, .int .i64 t79, .int .i64 t81, .int .i64 0, .int .i64 0, .bool false, .nsl, .int .i64 t10, .int .i64 (lenS t0), strA t72, .int .i64 0, .int .i64 0, .int .i64 0, .int .i64 0, .int .i64 0, .int .i64 0, .int .u8 0, .int .i64 0, .int .i64 0] : List AV)] h_58) fun r87 h_75 =>
            obind (extT 0 r87) fun v88 =>
            obind (avInt .i64 v88) fun t88 =>
            obind (extT 1 r87) fun v89 =>
            obind (avStr v89) fun t89 =>
            obind (extT 2 r87) fun v90 =>
            obind (avBool v90) fun t90 =>
            lett (decide (t88 < t8)) fun (t93 : Bool) =>
            lett (fun (t99 : Bool) (h_86 : AHeap) =>
              lett (fun (t112 : Bool) (h_89 : AHeap) =>
                lett (fun (t122 : Bool) (h_92 : AHeap) =>
                  ifB t122
                  (
                    some (.ret (.bool false), h_92))
                  (
                    ifB t90
                    (
                      lett ((t88 : Int) == (lenS t0)) fun (t128 : Bool) =>
                      lett (fun (t133 : Bool) (h_101 : AHeap) =>
                        some (.ret (.bool t133), h_101)) fun j133 =>
                      ifB t128
                      (
                        lett (eqS t89 t0) fun (t132 : Bool) =>
                        j133 t132 h_92)
                      (
                        j133 false h_92))
                    (
                      lett (!eqS t89 ([] : Bytes)) fun (t135 : Bool) =>
                      ifB t135
                      (
                        some (.ret (.bool false), h_92))
                      (
                        lett (IntKind.i64.wrap (t40 + 1)) fun (t136 : Int) =>
                        self t88 t136 h_92)))) fun j122 =>
                ifB t112
                (
                  j122 true h_89)
                (
                  lett ((t10 : Int) != t8) fun (t116 : Bool) =>
                  lett (fun (t121 : Bool) (h_110 : AHeap) =>
                    j122 t121 h_110) fun j121 =>
                  ifB t116
                  (
                    lett ((t88 : Int) != t8) fun (t120 : Bool) =>
                    j121 t120 h_89)
                  (
                    j121 false h_89))) fun j112 =>
              ifB t99
              (
                j112 true h_86)
              (
                lett ((t10 : Int) == t8) fun (t103 : Bool) =>
                lett (fun (t111 : Bool) (h_115 : AHeap) =>
                  j112 t111 h_115) fun j111 =>
                ifB t103
                (
                  lett (IntKind.i64.wrap (t8 + (lenS t72))) fun (t109 : Int) =>
                  lett ((t88 : Int) != t109) fun (t110 : Bool) =>
                  j111 t110 h_86)
                (
                  j111 false h_86))) fun j99 =>
            ifB t93
            (
              j99 true h_75)
            (
              lett (decide (t88 > (lenS t0))) fun (t98 : Bool) =>
              j99 t98 h_75))) fun k55 =>
        ifB t63
        (
          obind (idxP 1 t2 t40) fun t66 =>
          obind (ldCell h_52 t66) fun v67 =>
          obind (avInt .i64 v67) fun t67 =>
          k55 t67 h_52)
        (
          k55 t8 h_52)) fun j63 =>
      ifB t54
      (
        obind (idxP 1 t2 t40) fun t58 =>
        obind (ldCell h_49 t58) fun v59 =>
        obind (avInt .i64 v59) fun t59 =>
        lett (decide (t59 ≤ (lenS t0))) fun (t62 : Bool) =>
        j63 t62 h_49)
      (
        j63 false h_49)) fun j54 =>
    ifB t47
    (
      obind (idxP 1 t2 t40) fun t51 =>
      obind (ldCell h_37 t51) fun v52 =>
      obind (avInt .i64 v52) fun t52 =>
      lett (decide (t52 ≥ 0)) fun (t53 : Bool) =>
      j54 t53 h_37)
    (
      j54 false h_37))
  (
    k33 h_37)
noncomputable def law19_SnapComes_L0 (call : CallF) (t0 : Bytes) (t2 : AV) (v4 : AV) (r31 : AV) (t39 : Int) (k33 : AHeap → R) : Nat → Int → Int → AHeap → R := iterR (fun _ _ _ => none) (law19_SnapComes_L0b call t0 t2 v4 r31 t39 k33)
theorem law19_SnapComes_L0_s (call : CallF) (t0 : Bytes) (t2 : AV) (v4 : AV) (r31 : AV) (t39 : Int) (k33 : AHeap → R) (m : Nat) : law19_SnapComes_L0 call t0 t2 v4 r31 t39 k33 (m + 1) = law19_SnapComes_L0b call t0 t2 v4 r31 t39 k33 (law19_SnapComes_L0 call t0 t2 v4 r31 t39 k33 m) := rfl
noncomputable def law19_SnapComes (call : CallF) (n : Nat) (t0 : Bytes) (t1 : List AV) (t2 : AV) (h : AHeap) : R :=
  outK (opBox h 39 (some (.agg t1))) fun v4 h_2 =>
  callK (call 8 [] h_2) fun r16 h_6 =>
  obind (avBool r16) fun t16 =>
  lett (!t16) fun (t17 : Bool) =>
  ifB t17
  (
    some (.ret (.bool false), h_6))
  (
    lett (decide ((lenS t0) > 65536)) fun (t20 : Bool) =>
    lett (fun (t25 : Bool) (h_14 : AHeap) =>
      lett (fun (t30 : Bool) (h_17 : AHeap) =>
        ifB t30
        (
          some (.ret (.bool true), h_17))
        (
          callN (call 11 [] h_17) fun r31 h_22 =>
          obind (quoI .i64 (lenS t0) 2048) fun t34 =>
          lett (IntKind.i64.wrap (1 + t34)) fun (t35 : Int) =>
          lett (IntKind.i64.wrap (t35 + 1)) fun (t36 : Int) =>
          obind (lenL t2) fun t38 =>
          lett (IntKind.i64.wrap (t36 + t38)) fun (t39 : Int) =>
          lett (fun  (h_34 : AHeap) =>
            some (.ret (.bool false), h_34)) fun k33 =>
          law19_SnapComes_L0 call t0 t2 v4 r31 t39 k33 n 0 0 h_22)) fun j30 =>
      ifB t25
      (
        j30 true h_14)
      (
        obind (lenL t2) fun t28 =>
        lett (decide (t28 > 100)) fun (t29 : Bool) =>
        j30 t29 h_14)) fun j25 =>
    ifB t20
    (
      j25 true h_6)
    (
      obind (fldP 0 v4) fun t22 =>
      obind (ldCell h_6 t22) fun v23 =>
      obind (avInt .i64 v23) fun t23 =>
      lett (decide (t23 < 1)) fun (t24 : Bool) =>
      j25 t24 h_6))
set_option maxHeartbeats 4000000 in
set_option maxRecDepth 20000 in
theorem law19_SnapComes_ok {call : CallF} (hc : SaysAll Try.prog call) {n : Nat} {t0 : Bytes} {t1 : List AV} {t2 : AV} {h : AHeap} {rR : ARes} {hR : AHeap} (hF : law19_SnapComes call n t0 t1 t2 h = some (rR, hR)) : Says Try.prog 6 [strA t0, .agg t1, t2] h rR hR := by
  unfold law19_SnapComes at hF
  refine says_of (fn := Try.f6) Try.func6 (c := codeOf Try.f6) (by kernel_rfl) (by kernel_rfl) (fun w0 m0 => ?_)
  refine W.weaken (l' := [(0, strA t0), (1, .agg t1), (2, t2)]) (Fr.sub_cons (by kernel_rfl) (Fr.sub_cons (by kernel_rfl) (Fr.sub_cons (by kernel_rfl) (Fr.sub_nil _)))) ?_
  refine W.seqK (by kernel_rfl) (fun K1 n1 e1 r1 p1 => ?_)
  refine W.region (by kernel_rfl) ?_
  replace hF := outK_some hF; obtain ⟨v4, h_2, e3, hF⟩ := hF
  refine WL.val (d := (some 4)) (v := v4) (h' := h_2) (by kernel_rfl) (by kernel_rfl) (Eq.trans (by kernel_rfl) e3) ?_
  refine WL.val (d := (some 6)) (v := .bool false) (h' := h_2) (by kernel_rfl) (by kernel_rfl) (by kernel_rfl) ?_
  refine WL.nil (by kernel_rfl) ?_
  refine Go.weaken (l' := [(0, strA t0), (2, t2), (4, v4)]) (Fr.sub_cons (by kernel_rfl) (Fr.sub_cons (by kernel_rfl) (Fr.sub_cons (by kernel_rfl) (Fr.sub_nil _)))) ?_
  refine n1 ?_
  refine W.seqK (by kernel_rfl) (fun K4 n4 e4 r4 p4 => ?_)
  refine W.seqK (by kernel_rfl) (fun K5 n5 e5 r5 p5 => ?_)
  refine W.region (by kernel_rfl) ?_
  replace hF := callK_some hF; rcases hF with ⟨r16, h_6, e7, hF⟩ | ⟨r16, h_6, e7, q138⟩
  · replace hF := obind_some hF; obtain ⟨t16, c8, hF⟩ := hF
    have c8 := avBool_some c8
    subst c8
    refine WL.call (hc.ok w0) (d := (some 16)) (by kernel_rfl) (by kernel_rfl) (by kernel_rfl) e7 ?_
    replace hF := lett_some hF; obtain ⟨t17, e9, hF⟩ := hF
    refine WL.val (d := (some 17)) (v := .bool t17) (h' := h_6) (by kernel_rfl) (by kernel_rfl) (val_of AV.bool e9 (by kernel_rfl)) ?_
    refine WL.nil (by kernel_rfl) ?_
    refine Go.weaken (l' := [(0, strA t0), (2, t2), (4, v4), (17, .bool t17)]) (Fr.sub_cons (by kernel_rfl) (Fr.sub_cons (by kernel_rfl) (Fr.sub_cons (by kernel_rfl) (Fr.sub_cons (by kernel_rfl) (Fr.sub_nil _))))) ?_
    refine n5 ?_
    cases t17 with
    | true =>
      replace hF := ifB_t hF
      refine W.cond_true (by kernel_rfl) (by kernel_rfl) ?_
      refine W.seqK (by kernel_rfl) (fun K10 n10 e10 r10 p10 => ?_)
      refine W.region (by kernel_rfl) ?_
      refine WL.val (d := (some 6)) (v := .bool false) (h' := h_6) (by kernel_rfl) (by kernel_rfl) (by kernel_rfl) ?_
      refine WL.nil (by kernel_rfl) ?_
      refine Go.weaken (l' := [(6, .bool false)]) (Fr.sub_cons (by kernel_rfl) (Fr.sub_nil _)) ?_
      refine n10 ?_
      refine W.ret (by kernel_rfl) ?_
      refine r4 ?_
      obtain ⟨hF, hF2⟩ := ret_inj hF; subst hF; subst hF2
      exact leave_of (rs := [.tmp 6]) (vs := [.bool false]) (by kernel_rfl) (res_tmp (by kernel_rfl) res_nil) (by kernel_rfl)
    | false =>
      replace hF := ifB_f hF
      refine W.cond_false (by kernel_rfl) (by kernel_rfl) ?_
      refine W.skip (by kernel_rfl) ?_
      refine n4 ?_
      refine W.seqK (by kernel_rfl) (fun K11 n11 e11 r11 p11 => ?_)
      refine W.seqK (by kernel_rfl) (fun K12 n12 e12 r12 p12 => ?_)
      refine W.region (by kernel_rfl) ?_
      refine WL.val (d := (some 18)) (v := strA t0) (h' := h_6) (by kernel_rfl) (by kernel_rfl) (by kernel_rfl) ?_
      refine WL.val (d := (some 19)) (v := .int .i64 (lenS t0)) (h' := h_6) (by kernel_rfl) (by kernel_rfl) (by kernel_rfl) ?_
      replace hF := lett_some hF; obtain ⟨t20, e13, hF⟩ := hF
      refine WL.val (d := (some 20)) (v := .bool t20) (h' := h_6) (by kernel_rfl) (by kernel_rfl) (val_of AV.bool e13 (by kernel_rfl)) ?_
      refine WL.val (d := (some 21)) (v := .bool t20) (h' := h_6) (by kernel_rfl) (by kernel_rfl) (by kernel_rfl) ?_
      replace hF := lett_some hF; obtain ⟨j25, e15, hF⟩ := hF
      have J16 : ∀ (t25 : Bool) (h_14 : AHeap), j25 t25 h_14 = some (rR, hR) → WL Try.prog w0 m0 (Func.ntmps Try.f6) (Code.ops (Code.p1 (Code.p1 (Code.p2 (Code.p2 (codeOf Try.f6)))))) 8 K12 [(0, strA t0), (2, t2), (4, v4), (25, .bool t25)] [] h_14 := by
        intro t25 h_14 hF
        rw [e15] at hF
        refine WL.val (d := (some 26)) (v := .bool t25) (h' := h_14) (by kernel_rfl) (by kernel_rfl) (by kernel_rfl) ?_
        replace hF := lett_some hF; obtain ⟨j30, e18, hF⟩ := hF
        have J19 : ∀ (t30 : Bool) (h_17 : AHeap), j30 t30 h_17 = some (rR, hR) → WL Try.prog w0 m0 (Func.ntmps Try.f6) (Code.ops (Code.p1 (Code.p1 (Code.p2 (Code.p2 (codeOf Try.f6)))))) 13 K12 [(0, strA t0), (2, t2), (4, v4), (30, .bool t30)] [] h_17 := by
          intro t30 h_17 hF
          rw [e18] at hF
          refine WL.nil (by kernel_rfl) ?_
          refine Go.weaken (l' := [(0, strA t0), (2, t2), (4, v4), (30, .bool t30)]) (Fr.sub_cons (by kernel_rfl) (Fr.sub_cons (by kernel_rfl) (Fr.sub_cons (by kernel_rfl) (Fr.sub_cons (by kernel_rfl) (Fr.sub_nil _))))) ?_
          refine n12 ?_
          cases t30 with
          | true =>
            replace hF := ifB_t hF
            refine W.cond_true (by kernel_rfl) (by kernel_rfl) ?_
            refine W.seqK (by kernel_rfl) (fun K20 n20 e20 r20 p20 => ?_)
            refine W.region (by kernel_rfl) ?_
            refine WL.val (d := (some 6)) (v := .bool true) (h' := h_17) (by kernel_rfl) (by kernel_rfl) (by kernel_rfl) ?_
            refine WL.nil (by kernel_rfl) ?_
            refine Go.weaken (l' := [(6, .bool true)]) (Fr.sub_cons (by kernel_rfl) (Fr.sub_nil _)) ?_
            refine n20 ?_
            refine W.ret (by kernel_rfl) ?_
            refine r11 ?_
            obtain ⟨hF, hF2⟩ := ret_inj hF; subst hF; subst hF2
            exact leave_of (rs := [.tmp 6]) (vs := [.bool true]) (by kernel_rfl) (res_tmp (by kernel_rfl) res_nil) (by kernel_rfl)
          | false =>
            replace hF := ifB_f hF
            refine W.cond_false (by kernel_rfl) (by kernel_rfl) ?_
            refine W.skip (by kernel_rfl) ?_
            refine n11 ?_
            refine W.seqK (by kernel_rfl) (fun K21 n21 e21 r21 p21 => ?_)
            refine W.region (by kernel_rfl) ?_
            replace hF := callN_some hF; obtain ⟨r31, h_22, e23, hF⟩ := hF
            refine WL.call (hc.ok w0) (d := (some 31)) (by kernel_rfl) (by kernel_rfl) (by kernel_rfl) e23 ?_
            refine WL.val (d := (some 7)) (v := r31) (h' := h_22) (by kernel_rfl) (by kernel_rfl) (by kernel_rfl) ?_
            refine WL.nil (by kernel_rfl) ?_
            refine Go.weaken (l' := [(0, strA t0), (2, t2), (4, v4), (7, r31)]) (Fr.sub_cons (by kernel_rfl) (Fr.sub_cons (by kernel_rfl) (Fr.sub_cons (by kernel_rfl) (Fr.sub_cons (by kernel_rfl) (Fr.sub_nil _))))) ?_
            refine n21 ?_
            refine W.seqK (by kernel_rfl) (fun K24 n24 e24 r24 p24 => ?_)
            refine W.region (by kernel_rfl) ?_
            refine WL.val (d := (some 8)) (v := .int .i64 0) (h' := h_22) (by kernel_rfl) (by kernel_rfl) (by kernel_rfl) ?_
            refine WL.nil (by kernel_rfl) ?_
            refine Go.weaken (l' := [(0, strA t0), (2, t2), (4, v4), (7, r31), (8, .int .i64 0)]) (Fr.sub_cons (by kernel_rfl) (Fr.sub_cons (by kernel_rfl) (Fr.sub_cons (by kernel_rfl) (Fr.sub_cons (by kernel_rfl) (Fr.sub_cons (by kernel_rfl) (Fr.sub_nil _)))))) ?_
            refine n24 ?_
            refine W.seqK (by kernel_rfl) (fun K25 n25 e25 r25 p25 => ?_)
            refine W.seqK (by kernel_rfl) (fun K26 n26 e26 r26 p26 => ?_)
            refine W.region (by kernel_rfl) ?_
            refine WL.val (d := (some 32)) (v := strA t0) (h' := h_22) (by kernel_rfl) (by kernel_rfl) (by kernel_rfl) ?_
            refine WL.val (d := (some 33)) (v := .int .i64 (lenS t0)) (h' := h_22) (by kernel_rfl) (by kernel_rfl) (by kernel_rfl) ?_
            replace hF := obind_some hF; obtain ⟨t34, e27, hF⟩ := hF
            refine WL.val (d := (some 34)) (v := .int .i64 t34) (h' := h_22) (by kernel_rfl) (by kernel_rfl) (Eq.trans (by kernel_rfl) (quo_int (P := Try.prog) (h := h_22) (t := 3) (lit := true) e27)) ?_
            replace hF := lett_some hF; obtain ⟨t35, e28, hF⟩ := hF
            refine WL.val (d := (some 35)) (v := .int .i64 t35) (h' := h_22) (by kernel_rfl) (by kernel_rfl) (val_of (AV.int .i64) e28 (by kernel_rfl)) ?_
            replace hF := lett_some hF; obtain ⟨t36, e29, hF⟩ := hF
            refine WL.val (d := (some 36)) (v := .int .i64 t36) (h' := h_22) (by kernel_rfl) (by kernel_rfl) (val_of (AV.int .i64) e29 (by kernel_rfl)) ?_
            refine WL.val (d := (some 37)) (v := t2) (h' := h_22) (by kernel_rfl) (by kernel_rfl) (by kernel_rfl) ?_
            replace hF := obind_some hF; obtain ⟨t38, e30, hF⟩ := hF
            refine WL.val (d := (some 38)) (v := .int .i64 t38) (h' := h_22) (by kernel_rfl) (by kernel_rfl) (Eq.trans (by kernel_rfl) (len_row (P := Try.prog) (h := h_22) (t := 44) (e' := 3) (by kernel_rfl) e30)) ?_
            replace hF := lett_some hF; obtain ⟨t39, e31, hF⟩ := hF
            refine WL.val (d := (some 39)) (v := .int .i64 t39) (h' := h_22) (by kernel_rfl) (by kernel_rfl) (val_of (AV.int .i64) e31 (by kernel_rfl)) ?_
            refine WL.val (d := (some 40)) (v := .int .i64 0) (h' := h_22) (by kernel_rfl) (by kernel_rfl) (by kernel_rfl) ?_
            refine WL.nil (by kernel_rfl) ?_
            refine Go.weaken (l' := [(0, strA t0), (2, t2), (4, v4), (7, r31), (8, .int .i64 0), (39, .int .i64 t39), (40, .int .i64 0)]) (Fr.sub_cons (by kernel_rfl) (Fr.sub_cons (by kernel_rfl) (Fr.sub_cons (by kernel_rfl) (Fr.sub_cons (by kernel_rfl) (Fr.sub_cons (by kernel_rfl) (Fr.sub_cons (by kernel_rfl) (Fr.sub_cons (by kernel_rfl) (Fr.sub_nil _)))))))) ?_
            refine n26 ?_
            replace hF := lett_some hF; obtain ⟨k33, e33, hF⟩ := hF
            have J33 : ∀  (h_34 : AHeap), k33 h_34 = some (rR, hR) → Go w0 m0 (Func.ntmps Try.f6) (K25 .normal) [] [] h_34 := by
              intro  h_34 hF
              rw [e33] at hF
              refine n25 ?_
              refine W.seqK (by kernel_rfl) (fun K35 n35 e35 r35 p35 => ?_)
              refine W.region (by kernel_rfl) ?_
              refine WL.val (d := (some 6)) (v := .bool false) (h' := h_34) (by kernel_rfl) (by kernel_rfl) (by kernel_rfl) ?_
              refine WL.nil (by kernel_rfl) ?_
              refine Go.weaken (l' := [(6, .bool false)]) (Fr.sub_cons (by kernel_rfl) (Fr.sub_nil _)) ?_
              refine n35 ?_
              refine W.ret (by kernel_rfl) ?_
              obtain ⟨hF, hF2⟩ := ret_inj hF; subst hF; subst hF2
              exact leave_of (rs := [.tmp 6]) (vs := [.bool false]) (by kernel_rfl) (res_tmp (by kernel_rfl) res_nil) (by kernel_rfl)
            refine W.blockK (by kernel_rfl) (fun K32 n32 s32 o32 r32 p32 => ?_)
            refine W.loopK (by kernel_rfl) (fun I36 K36 b36 n36 e36 r36 p36 => ?_)
            have L36 : ∀ (m : Nat) (t8 : Int) (t40 : Int) (h_37 : AHeap), law19_SnapComes_L0 call t0 t2 v4 r31 t39 k33 m t8 t40 h_37 = some (rR, hR) → Go w0 m0 (Func.ntmps Try.f6) I36 [(0, strA t0), (2, t2), (4, v4), (7, r31), (8, .int .i64 t8), (39, .int .i64 t39), (40, .int .i64 t40)] [] h_37 := by
              intro m
              induction m with
              | zero => intro t8 t40 h_37 hF; cases hF
              | succ m ih36 =>
                intro t8 t40 h_37 hF
                rw [law19_SnapComes_L0_s] at hF; unfold law19_SnapComes_L0b at hF
                refine b36 ?_
                refine W.seqK (by kernel_rfl) (fun K38 n38 e38 r38 p38 => ?_)
                refine W.region (by kernel_rfl) ?_
                replace hF := lett_some hF; obtain ⟨t41, e39, hF⟩ := hF
                refine WL.val (d := (some 41)) (v := .bool t41) (h' := h_37) (by kernel_rfl) (by kernel_rfl) (val_of AV.bool e39 (by kernel_rfl)) ?_
                refine WL.nil (by kernel_rfl) ?_
                refine Go.weaken (l' := [(0, strA t0), (2, t2), (4, v4), (7, r31), (8, .int .i64 t8), (39, .int .i64 t39), (40, .int .i64 t40), (41, .bool t41)]) (Fr.sub_cons (by kernel_rfl) (Fr.sub_cons (by kernel_rfl) (Fr.sub_cons (by kernel_rfl) (Fr.sub_cons (by kernel_rfl) (Fr.sub_cons (by kernel_rfl) (Fr.sub_cons (by kernel_rfl) (Fr.sub_cons (by kernel_rfl) (Fr.sub_cons (by kernel_rfl) (Fr.sub_nil _))))))))) ?_
                refine n38 ?_
                refine W.seqK (by kernel_rfl) (fun K40 n40 e40 r40 p40 => ?_)
                cases t41 with
                | true =>
                  replace hF := ifB_t hF
                  refine W.cond_true (by kernel_rfl) (by kernel_rfl) ?_
                  refine W.skip (by kernel_rfl) ?_
                  refine n40 ?_
                  refine W.seqK (by kernel_rfl) (fun K41 n41 e41 r41 p41 => ?_)
                  refine W.blockK (by kernel_rfl) (fun K42 n42 s42 o42 r42 p42 => ?_)
                  refine W.seqK (by kernel_rfl) (fun K43 n43 e43 r43 p43 => ?_)
                  refine W.region (by kernel_rfl) ?_
                  refine WL.val (d := (some 42)) (v := .int .i64 t40) (h' := h_37) (by kernel_rfl) (by kernel_rfl) (by kernel_rfl) ?_
                  refine WL.val (d := (some 9)) (v := .int .i64 t40) (h' := h_37) (by kernel_rfl) (by kernel_rfl) (by kernel_rfl) ?_
                  refine WL.nil (by kernel_rfl) ?_
                  refine Go.weaken (l' := [(0, strA t0), (2, t2), (4, v4), (7, r31), (8, .int .i64 t8), (9, .int .i64 t40), (39, .int .i64 t39), (40, .int .i64 t40)]) (Fr.sub_cons (by kernel_rfl) (Fr.sub_cons (by kernel_rfl) (Fr.sub_cons (by kernel_rfl) (Fr.sub_cons (by kernel_rfl) (Fr.sub_cons (by kernel_rfl) (Fr.sub_cons (by kernel_rfl) (Fr.sub_cons (by kernel_rfl) (Fr.sub_cons (by kernel_rfl) (Fr.sub_nil _))))))))) ?_
                  refine n43 ?_
                  refine W.seqK (by kernel_rfl) (fun K44 n44 e44 r44 p44 => ?_)
                  refine W.region (by kernel_rfl) ?_
                  refine WL.val (d := (some 43)) (v := .int .i64 t8) (h' := h_37) (by kernel_rfl) (by kernel_rfl) (by kernel_rfl) ?_
                  refine WL.val (d := (some 10)) (v := .int .i64 t8) (h' := h_37) (by kernel_rfl) (by kernel_rfl) (by kernel_rfl) ?_
                  refine WL.nil (by kernel_rfl) ?_
                  refine Go.weaken (l' := [(0, strA t0), (2, t2), (4, v4), (7, r31), (8, .int .i64 t8), (9, .int .i64 t40), (10, .int .i64 t8), (39, .int .i64 t39), (40, .int .i64 t40)]) (Fr.sub_cons (by kernel_rfl) (Fr.sub_cons (by kernel_rfl) (Fr.sub_cons (by kernel_rfl) (Fr.sub_cons (by kernel_rfl) (Fr.sub_cons (by kernel_rfl) (Fr.sub_cons (by kernel_rfl) (Fr.sub_cons (by kernel_rfl) (Fr.sub_cons (by kernel_rfl) (Fr.sub_cons (by kernel_rfl) (Fr.sub_nil _)))))))))) ?_
                  refine n44 ?_
                  refine W.seqK (by kernel_rfl) (fun K45 n45 e45 r45 p45 => ?_)
                  refine W.seqK (by kernel_rfl) (fun K46 n46 e46 r46 p46 => ?_)
                  refine W.region (by kernel_rfl) ?_
                  refine WL.val (d := (some 44)) (v := .int .i64 t40) (h' := h_37) (by kernel_rfl) (by kernel_rfl) (by kernel_rfl) ?_
                  refine WL.val (d := (some 45)) (v := t2) (h' := h_37) (by kernel_rfl) (by kernel_rfl) (by kernel_rfl) ?_
                  replace hF := obind_some hF; obtain ⟨t46, e47, hF⟩ := hF
                  refine WL.val (d := (some 46)) (v := .int .i64 t46) (h' := h_37) (by kernel_rfl) (by kernel_rfl) (Eq.trans (by kernel_rfl) (len_row (P := Try.prog) (h := h_37) (t := 44) (e' := 3) (by kernel_rfl) e47)) ?_
                  replace hF := lett_some hF; obtain ⟨t47, e48, hF⟩ := hF
                  refine WL.val (d := (some 47)) (v := .bool t47) (h' := h_37) (by kernel_rfl) (by kernel_rfl) (val_of AV.bool e48 (by kernel_rfl)) ?_
                  refine WL.val (d := (some 48)) (v := .bool t47) (h' := h_37) (by kernel_rfl) (by kernel_rfl) (by kernel_rfl) ?_
                  replace hF := lett_some hF; obtain ⟨j54, e50, hF⟩ := hF
                  have J51 : ∀ (t54 : Bool) (h_49 : AHeap), j54 t54 h_49 = some (rR, hR) → WL Try.prog w0 m0 (Func.ntmps Try.f6) (Code.ops (Code.p1 (Code.p1 (Code.p2 (Code.p2 (Code.p1 (Code.p1 (Code.p2 (Code.p2 (Code.p1 (Code.p1 (Code.p2 (Code.p1 (Code.p2 (Code.p2 (Code.p2 (Code.p2 (Code.p2 (codeOf Try.f6))))))))))))))))))) 11 K46 [(0, strA t0), (2, t2), (4, v4), (7, r31), (8, .int .i64 t8), (9, .int .i64 t40), (10, .int .i64 t8), (39, .int .i64 t39), (40, .int .i64 t40), (54, .bool t54)] [] h_49 := by
                    intro t54 h_49 hF
                    rw [e50] at hF
                    refine WL.val (d := (some 55)) (v := .bool t54) (h' := h_49) (by kernel_rfl) (by kernel_rfl) (by kernel_rfl) ?_
                    replace hF := lett_some hF; obtain ⟨j63, e53, hF⟩ := hF
                    have J54 : ∀ (t63 : Bool) (h_52 : AHeap), j63 t63 h_52 = some (rR, hR) → WL Try.prog w0 m0 (Func.ntmps Try.f6) (Code.ops (Code.p1 (Code.p1 (Code.p2 (Code.p2 (Code.p1 (Code.p1 (Code.p2 (Code.p2 (Code.p1 (Code.p1 (Code.p2 (Code.p1 (Code.p2 (Code.p2 (Code.p2 (Code.p2 (Code.p2 (codeOf Try.f6))))))))))))))))))) 20 K46 [(0, strA t0), (2, t2), (4, v4), (7, r31), (8, .int .i64 t8), (9, .int .i64 t40), (10, .int .i64 t8), (39, .int .i64 t39), (40, .int .i64 t40), (63, .bool t63)] [] h_52 := by
                      intro t63 h_52 hF
                      rw [e53] at hF
                      refine WL.nil (by kernel_rfl) ?_
                      refine Go.weaken (l' := [(0, strA t0), (2, t2), (4, v4), (7, r31), (8, .int .i64 t8), (9, .int .i64 t40), (10, .int .i64 t8), (39, .int .i64 t39), (40, .int .i64 t40), (63, .bool t63)]) (Fr.sub_cons (by kernel_rfl) (Fr.sub_cons (by kernel_rfl) (Fr.sub_cons (by kernel_rfl) (Fr.sub_cons (by kernel_rfl) (Fr.sub_cons (by kernel_rfl) (Fr.sub_cons (by kernel_rfl) (Fr.sub_cons (by kernel_rfl) (Fr.sub_cons (by kernel_rfl) (Fr.sub_cons (by kernel_rfl) (Fr.sub_cons (by kernel_rfl) (Fr.sub_nil _))))))))))) ?_
                      refine n46 ?_
                      replace hF := lett_some hF; obtain ⟨k55, e55, hF⟩ := hF
                      have J55 : ∀ (t10 : Int) (h_56 : AHeap), k55 t10 h_56 = some (rR, hR) → Go w0 m0 (Func.ntmps Try.f6) (K45 .normal) [(0, strA t0), (2, t2), (4, v4), (7, r31), (8, .int .i64 t8), (10, .int .i64 t10), (39, .int .i64 t39), (40, .int .i64 t40)] [] h_56 := by
                        intro t10 h_56 hF
                        rw [e55] at hF
                        refine n45 ?_
                        refine W.seqK (by kernel_rfl) (fun K57 n57 e57 r57 p57 => ?_)
                        refine W.region (by kernel_rfl) ?_
                        refine WL.val (d := (some 69)) (v := strA t0) (h' := h_56) (by kernel_rfl) (by kernel_rfl) (by kernel_rfl) ?_
                        refine WL.val (d := (some 70)) (v := .int .i64 t10) (h' := h_56) (by kernel_rfl) (by kernel_rfl) (by kernel_rfl) ?_
                        replace hF := callN_some hF; obtain ⟨r71, h_58, e59, hF⟩ := hF
                        refine WL.call (hc.ok w0) (d := (some 71)) (by kernel_rfl) (by kernel_rfl) (by kernel_rfl) e59 ?_
                        refine WL.val (d := (some 68)) (v := r71) (h' := h_58) (by kernel_rfl) (by kernel_rfl) (by kernel_rfl) ?_
                        replace hF := obind_some hF; obtain ⟨v72, e60, hF⟩ := hF
                        replace hF := obind_some hF; obtain ⟨t72, c61, hF⟩ := hF
                        have c61 := avStr_some c61
                        subst c61
                        refine WL.val (d := (some 72)) (v := strA t72) (h' := h_58) (by kernel_rfl) (by kernel_rfl) (Eq.trans (by kernel_rfl) (extract_tup (h := h_58) e60)) ?_
                        replace hF := obind_some hF; obtain ⟨v73, e62, hF⟩ := hF
                        replace hF := obind_some hF; obtain ⟨t73, c63, hF⟩ := hF
                        have c63 := avInt_some c63
                        subst c63
                        refine WL.val (d := (some 73)) (v := .int .i64 t73) (h' := h_58) (by kernel_rfl) (by kernel_rfl) (Eq.trans (by kernel_rfl) (extract_tup (h := h_58) e62)) ?_
                        refine WL.val (d := (some 11)) (v := strA t72) (h' := h_58) (by kernel_rfl) (by kernel_rfl) (by kernel_rfl) ?_
                        refine WL.val (d := (some 12)) (v := .int .i64 t73) (h' := h_58) (by kernel_rfl) (by kernel_rfl) (by kernel_rfl) ?_
                        refine WL.nil (by kernel_rfl) ?_
                        refine Go.weaken (l' := [(0, strA t0), (2, t2), (4, v4), (7, r31), (8, .int .i64 t8), (10, .int .i64 t10), (11, strA t72), (12, .int .i64 t73), (39, .int .i64 t39), (40, .int .i64 t40)]) (Fr.sub_cons (by kernel_rfl) (Fr.sub_cons (by kernel_rfl) (Fr.sub_cons (by kernel_rfl) (Fr.sub_cons (by kernel_rfl) (Fr.sub_cons (by kernel_rfl) (Fr.sub_cons (by kernel_rfl) (Fr.sub_cons (by kernel_rfl) (Fr.sub_cons (by kernel_rfl) (Fr.sub_cons (by kernel_rfl) (Fr.sub_cons (by kernel_rfl) (Fr.sub_nil _))))))))))) ?_
                        refine n57 ?_
                        refine W.seqK (by kernel_rfl) (fun K64 n64 e64 r64 p64 => ?_)
                        refine W.seqK (by kernel_rfl) (fun K65 n65 e65 r65 p65 => ?_)
                        refine W.region (by kernel_rfl) ?_
                        refine WL.val (d := (some 74)) (v := .int .i64 t73) (h' := h_58) (by kernel_rfl) (by kernel_rfl) (by kernel_rfl) ?_
                        replace hF := lett_some hF; obtain ⟨t75, e66, hF⟩ := hF
                        refine WL.val (d := (some 75)) (v := .bool t75) (h' := h_58) (by kernel_rfl) (by kernel_rfl) (val_of AV.bool e66 (by kernel_rfl)) ?_
                        refine WL.nil (by kernel_rfl) ?_
                        refine Go.weaken (l' := [(0, strA t0), (2, t2), (4, v4), (7, r31), (8, .int .i64 t8), (10, .int .i64 t10), (11, strA t72), (39, .int .i64 t39), (40, .int .i64 t40), (75, .bool t75)]) (Fr.sub_cons (by kernel_rfl) (Fr.sub_cons (by kernel_rfl) (Fr.sub_cons (by kernel_rfl) (Fr.sub_cons (by kernel_rfl) (Fr.sub_cons (by kernel_rfl) (Fr.sub_cons (by kernel_rfl) (Fr.sub_cons (by kernel_rfl) (Fr.sub_cons (by kernel_rfl) (Fr.sub_cons (by kernel_rfl) (Fr.sub_cons (by kernel_rfl) (Fr.sub_nil _))))))))))) ?_
                        refine n65 ?_
                        cases t75 with
                        | true =>
                          replace hF := ifB_t hF
                          refine W.cond_true (by kernel_rfl) (by kernel_rfl) ?_
                          refine W.seqK (by kernel_rfl) (fun K67 n67 e67 r67 p67 => ?_)
                          refine W.region (by kernel_rfl) ?_
                          refine WL.val (d := (some 6)) (v := .bool false) (h' := h_58) (by kernel_rfl) (by kernel_rfl) (by kernel_rfl) ?_
                          refine WL.nil (by kernel_rfl) ?_
                          refine Go.weaken (l' := [(6, .bool false)]) (Fr.sub_cons (by kernel_rfl) (Fr.sub_nil _)) ?_
                          refine n67 ?_
                          refine W.ret (by kernel_rfl) ?_
                          refine r64 ?_
                          refine r42 ?_
                          refine r41 ?_
                          refine r36 ?_
                          refine r32 ?_
                          refine r25 ?_
                          obtain ⟨hF, hF2⟩ := ret_inj hF; subst hF; subst hF2
                          exact leave_of (rs := [.tmp 6]) (vs := [.bool false]) (by kernel_rfl) (res_tmp (by kernel_rfl) res_nil) (by kernel_rfl)
                        | false =>
                          replace hF := ifB_f hF
                          refine W.cond_false (by kernel_rfl) (by kernel_rfl) ?_
                          refine W.skip (by kernel_rfl) ?_
                          refine n64 ?_
                          refine W.seqK (by kernel_rfl) (fun K68 n68 e68 r68 p68 => ?_)
                          refine W.region (by kernel_rfl) ?_
                          refine WL.val (d := (some 77)) (v := r31) (h' := h_58) (by kernel_rfl) (by kernel_rfl) (by kernel_rfl) ?_
                          replace hF := obind_some hF; obtain ⟨t78, e69, hF⟩ := hF
                          refine WL.val (d := (some 78)) (v := t78) (h' := h_58) (by kernel_rfl) (by kernel_rfl) (Eq.trans (by kernel_rfl) (field_ptr (P := Try.prog) (h := h_58) (s := 39) (f := 0) (by kernel_rfl) e69)) ?_
                          replace hF := obind_some hF; obtain ⟨v79, e70, hF⟩ := hF
                          replace hF := obind_some hF; obtain ⟨t79, c71, hF⟩ := hF
                          have c71 := avInt_some c71
                          subst c71
                          refine WL.val (d := (some 79)) (v := .int .i64 t79) (h' := h_58) (by kernel_rfl) (by kernel_rfl) (Eq.trans (by kernel_rfl) (load_cell (P := Try.prog) (h := h_58) (t := 3) (by kernel_rfl) e70)) ?_
                          replace hF := obind_some hF; obtain ⟨t80, e72, hF⟩ := hF
                          refine WL.val (d := (some 80)) (v := t80) (h' := h_58) (by kernel_rfl) (by kernel_rfl) (Eq.trans (by kernel_rfl) (field_ptr (P := Try.prog) (h := h_58) (s := 39) (f := 1) (by kernel_rfl) e72)) ?_
                          replace hF := obind_some hF; obtain ⟨v81, e73, hF⟩ := hF
                          replace hF := obind_some hF; obtain ⟨t81, c74, hF⟩ := hF
                          have c74 := avInt_some c74
                          subst c74
                          refine WL.val (d := (some 81)) (v := .int .i64 t81) (h' := h_58) (by kernel_rfl) (by kernel_rfl) (Eq.trans (by kernel_rfl) (load_cell (P := Try.prog) (h := h_58) (t := 3) (by kernel_rfl) e73)) ?_
                          refine WL.val (d := (some 82)) (v := strA t0) (h' := h_58) (by kernel_rfl) (by kernel_rfl) (by kernel_rfl) ?_
                          refine WL.val (d := (some 83)) (v := .int .i64 (lenS t0)) (h' := h_58) (by kernel_rfl) (by kernel_rfl) (by kernel_rfl) ?_
                          refine WL.val (d := (some 84)) (v := .int .i64 t10) (h' := h_58) (by kernel_rfl) (by kernel_rfl) (by kernel_rfl) ?_
                          refine WL.val (d := (some 85)) (v := strA t72) (h' := h_58) (by kernel_rfl) (by kernel_rfl) (by kernel_rfl) ?_
                          refine WL.val (d := (some 86)) (v := .agg ([.int .u8 0, .int .i64 0, .int .i64 0, .int .i64 0, .int .i64 t79, .int .i64 t81, .int .i64 0, .int .i64 0, .bool false, .nsl, .int .i64 t10, .int .i64 (lenS t0), strA t72, .int .i64 0, .int .i64 0, .int .i64 0, .int .i64 0, .int .i64 0, .int .i64 0, .int .u8 0, .int .i64 0, .int .i64 0] : List AV)) (h' := h_58) (by kernel_rfl) (by kernel_rfl) (by kernel_rfl) ?_
                          replace hF := callN_some hF; obtain ⟨r87, h_75, e76, hF⟩ := hF
                          refine WL.call (hc.ok w0) (d := (some 87)) (by kernel_rfl) (by kernel_rfl) (by kernel_rfl) e76 ?_
                          refine WL.val (d := (some 76)) (v := r87) (h' := h_75) (by kernel_rfl) (by kernel_rfl) (by kernel_rfl) ?_
                          replace hF := obind_some hF; obtain ⟨v88, e77, hF⟩ := hF
                          replace hF := obind_some hF; obtain ⟨t88, c78, hF⟩ := hF
                          have c78 := avInt_some c78
                          subst c78
                          refine WL.val (d := (some 88)) (v := .int .i64 t88) (h' := h_75) (by kernel_rfl) (by kernel_rfl) (Eq.trans (by kernel_rfl) (extract_tup (h := h_75) e77)) ?_
                          replace hF := obind_some hF; obtain ⟨v89, e79, hF⟩ := hF
                          replace hF := obind_some hF; obtain ⟨t89, c80, hF⟩ := hF
                          have c80 := avStr_some c80
                          subst c80
                          refine WL.val (d := (some 89)) (v := strA t89) (h' := h_75) (by kernel_rfl) (by kernel_rfl) (Eq.trans (by kernel_rfl) (extract_tup (h := h_75) e79)) ?_
                          replace hF := obind_some hF; obtain ⟨v90, e81, hF⟩ := hF
                          replace hF := obind_some hF; obtain ⟨t90, c82, hF⟩ := hF
                          have c82 := avBool_some c82
                          subst c82
                          refine WL.val (d := (some 90)) (v := .bool t90) (h' := h_75) (by kernel_rfl) (by kernel_rfl) (Eq.trans (by kernel_rfl) (extract_tup (h := h_75) e81)) ?_
                          refine WL.val (d := (some 13)) (v := .int .i64 t88) (h' := h_75) (by kernel_rfl) (by kernel_rfl) (by kernel_rfl) ?_
                          refine WL.val (d := (some 14)) (v := strA t89) (h' := h_75) (by kernel_rfl) (by kernel_rfl) (by kernel_rfl) ?_
                          refine WL.val (d := (some 15)) (v := .bool t90) (h' := h_75) (by kernel_rfl) (by kernel_rfl) (by kernel_rfl) ?_
                          refine WL.nil (by kernel_rfl) ?_
                          refine Go.weaken (l' := [(0, strA t0), (2, t2), (4, v4), (7, r31), (8, .int .i64 t8), (10, .int .i64 t10), (11, strA t72), (13, .int .i64 t88), (14, strA t89), (15, .bool t90), (39, .int .i64 t39), (40, .int .i64 t40)]) (Fr.sub_cons (by kernel_rfl) (Fr.sub_cons (by kernel_rfl) (Fr.sub_cons (by kernel_rfl) (Fr.sub_cons (by kernel_rfl) (Fr.sub_cons (by kernel_rfl) (Fr.sub_cons (by kernel_rfl) (Fr.sub_cons (by kernel_rfl) (Fr.sub_cons (by kernel_rfl) (Fr.sub_cons (by kernel_rfl) (Fr.sub_cons (by kernel_rfl) (Fr.sub_cons (by kernel_rfl) (Fr.sub_cons (by kernel_rfl) (Fr.sub_nil _))))))))))))) ?_
                          refine n68 ?_
                          refine W.seqK (by kernel_rfl) (fun K83 n83 e83 r83 p83 => ?_)
                          refine W.seqK (by kernel_rfl) (fun K84 n84 e84 r84 p84 => ?_)
                          refine W.region (by kernel_rfl) ?_
                          refine WL.val (d := (some 91)) (v := .int .i64 t88) (h' := h_75) (by kernel_rfl) (by kernel_rfl) (by kernel_rfl) ?_
                          refine WL.val (d := (some 92)) (v := .int .i64 t8) (h' := h_75) (by kernel_rfl) (by kernel_rfl) (by kernel_rfl) ?_
                          replace hF := lett_some hF; obtain ⟨t93, e85, hF⟩ := hF
                          refine WL.val (d := (some 93)) (v := .bool t93) (h' := h_75) (by kernel_rfl) (by kernel_rfl) (val_of AV.bool e85 (by kernel_rfl)) ?_
                          refine WL.val (d := (some 94)) (v := .bool t93) (h' := h_75) (by kernel_rfl) (by kernel_rfl) (by kernel_rfl) ?_
                          replace hF := lett_some hF; obtain ⟨j99, e87, hF⟩ := hF
                          have J88 : ∀ (t99 : Bool) (h_86 : AHeap), j99 t99 h_86 = some (rR, hR) → WL Try.prog w0 m0 (Func.ntmps Try.f6) (Code.ops (Code.p1 (Code.p1 (Code.p2 (Code.p2 (Code.p2 (Code.p2 (Code.p2 (Code.p2 (Code.p1 (Code.p1 (Code.p2 (Code.p2 (Code.p1 (Code.p1 (Code.p2 (Code.p1 (Code.p2 (Code.p2 (Code.p2 (Code.p2 (Code.p2 (codeOf Try.f6))))))))))))))))))))))) 9 K84 [(0, strA t0), (2, t2), (4, v4), (7, r31), (8, .int .i64 t8), (10, .int .i64 t10), (11, strA t72), (13, .int .i64 t88), (14, strA t89), (15, .bool t90), (39, .int .i64 t39), (40, .int .i64 t40), (99, .bool t99)] [] h_86 := by
                            intro t99 h_86 hF
                            rw [e87] at hF
                            refine WL.val (d := (some 100)) (v := .bool t99) (h' := h_86) (by kernel_rfl) (by kernel_rfl) (by kernel_rfl) ?_
                            replace hF := lett_some hF; obtain ⟨j112, e90, hF⟩ := hF
                            have J91 : ∀ (t112 : Bool) (h_89 : AHeap), j112 t112 h_89 = some (rR, hR) → WL Try.prog w0 m0 (Func.ntmps Try.f6) (Code.ops (Code.p1 (Code.p1 (Code.p2 (Code.p2 (Code.p2 (Code.p2 (Code.p2 (Code.p2 (Code.p1 (Code.p1 (Code.p2 (Code.p2 (Code.p1 (Code.p1 (Code.p2 (Code.p1 (Code.p2 (Code.p2 (Code.p2 (Code.p2 (Code.p2 (codeOf Try.f6))))))))))))))))))))))) 22 K84 [(0, strA t0), (2, t2), (4, v4), (7, r31), (8, .int .i64 t8), (10, .int .i64 t10), (13, .int .i64 t88), (14, strA t89), (15, .bool t90), (39, .int .i64 t39), (40, .int .i64 t40), (112, .bool t112)] [] h_89 := by
                              intro t112 h_89 hF
                              rw [e90] at hF
                              refine WL.val (d := (some 113)) (v := .bool t112) (h' := h_89) (by kernel_rfl) (by kernel_rfl) (by kernel_rfl) ?_
                              replace hF := lett_some hF; obtain ⟨j122, e93, hF⟩ := hF
                              have J94 : ∀ (t122 : Bool) (h_92 : AHeap), j122 t122 h_92 = some (rR, hR) → WL Try.prog w0 m0 (Func.ntmps Try.f6) (Code.ops (Code.p1 (Code.p1 (Code.p2 (Code.p2 (Code.p2 (Code.p2 (Code.p2 (Code.p2 (Code.p1 (Code.p1 (Code.p2 (Code.p2 (Code.p1 (Code.p1 (Code.p2 (Code.p1 (Code.p2 (Code.p2 (Code.p2 (Code.p2 (Code.p2 (codeOf Try.f6))))))))))))))))))))))) 32 K84 [(0, strA t0), (2, t2), (4, v4), (7, r31), (13, .int .i64 t88), (14, strA t89), (15, .bool t90), (39, .int .i64 t39), (40, .int .i64 t40), (122, .bool t122)] [] h_92 := by
                                intro t122 h_92 hF
                                rw [e93] at hF
                                refine WL.nil (by kernel_rfl) ?_
                                refine Go.weaken (l' := [(0, strA t0), (2, t2), (4, v4), (7, r31), (13, .int .i64 t88), (14, strA t89), (15, .bool t90), (39, .int .i64 t39), (40, .int .i64 t40), (122, .bool t122)]) (Fr.sub_cons (by kernel_rfl) (Fr.sub_cons (by kernel_rfl) (Fr.sub_cons (by kernel_rfl) (Fr.sub_cons (by kernel_rfl) (Fr.sub_cons (by kernel_rfl) (Fr.sub_cons (by kernel_rfl) (Fr.sub_cons (by kernel_rfl) (Fr.sub_cons (by kernel_rfl) (Fr.sub_cons (by kernel_rfl) (Fr.sub_cons (by kernel_rfl) (Fr.sub_nil _))))))))))) ?_
                                refine n84 ?_
                                cases t122 with
                                | true =>
                                  replace hF := ifB_t hF
                                  refine W.cond_true (by kernel_rfl) (by kernel_rfl) ?_
                                  refine W.seqK (by kernel_rfl) (fun K95 n95 e95 r95 p95 => ?_)
                                  refine W.region (by kernel_rfl) ?_
                                  refine WL.val (d := (some 6)) (v := .bool false) (h' := h_92) (by kernel_rfl) (by kernel_rfl) (by kernel_rfl) ?_
                                  refine WL.nil (by kernel_rfl) ?_
                                  refine Go.weaken (l' := [(6, .bool false)]) (Fr.sub_cons (by kernel_rfl) (Fr.sub_nil _)) ?_
                                  refine n95 ?_
                                  refine W.ret (by kernel_rfl) ?_
                                  refine r83 ?_
                                  refine r42 ?_
                                  refine r41 ?_
                                  refine r36 ?_
                                  refine r32 ?_
                                  refine r25 ?_
                                  obtain ⟨hF, hF2⟩ := ret_inj hF; subst hF; subst hF2
                                  exact leave_of (rs := [.tmp 6]) (vs := [.bool false]) (by kernel_rfl) (res_tmp (by kernel_rfl) res_nil) (by kernel_rfl)
                                | false =>
                                  replace hF := ifB_f hF
                                  refine W.cond_false (by kernel_rfl) (by kernel_rfl) ?_
                                  refine W.skip (by kernel_rfl) ?_
                                  refine n83 ?_
                                  refine W.seqK (by kernel_rfl) (fun K96 n96 e96 r96 p96 => ?_)
                                  refine W.region (by kernel_rfl) ?_
                                  refine WL.val (d := (some 123)) (v := .int .i64 t88) (h' := h_92) (by kernel_rfl) (by kernel_rfl) (by kernel_rfl) ?_
                                  refine WL.val (d := (some 8)) (v := .int .i64 t88) (h' := h_92) (by kernel_rfl) (by kernel_rfl) (by kernel_rfl) ?_
                                  refine WL.nil (by kernel_rfl) ?_
                                  refine Go.weaken (l' := [(0, strA t0), (2, t2), (4, v4), (7, r31), (8, .int .i64 t88), (14, strA t89), (15, .bool t90), (39, .int .i64 t39), (40, .int .i64 t40)]) (Fr.sub_cons (by kernel_rfl) (Fr.sub_cons (by kernel_rfl) (Fr.sub_cons (by kernel_rfl) (Fr.sub_cons (by kernel_rfl) (Fr.sub_cons (by kernel_rfl) (Fr.sub_cons (by kernel_rfl) (Fr.sub_cons (by kernel_rfl) (Fr.sub_cons (by kernel_rfl) (Fr.sub_cons (by kernel_rfl) (Fr.sub_nil _)))))))))) ?_
                                  refine n96 ?_
                                  refine W.seqK (by kernel_rfl) (fun K97 n97 e97 r97 p97 => ?_)
                                  refine W.seqK (by kernel_rfl) (fun K98 n98 e98 r98 p98 => ?_)
                                  refine W.region (by kernel_rfl) ?_
                                  refine WL.val (d := (some 124)) (v := .bool t90) (h' := h_92) (by kernel_rfl) (by kernel_rfl) (by kernel_rfl) ?_
                                  refine WL.nil (by kernel_rfl) ?_
                                  refine Go.weaken (l' := [(0, strA t0), (2, t2), (4, v4), (7, r31), (8, .int .i64 t88), (14, strA t89), (39, .int .i64 t39), (40, .int .i64 t40), (124, .bool t90)]) (Fr.sub_cons (by kernel_rfl) (Fr.sub_cons (by kernel_rfl) (Fr.sub_cons (by kernel_rfl) (Fr.sub_cons (by kernel_rfl) (Fr.sub_cons (by kernel_rfl) (Fr.sub_cons (by kernel_rfl) (Fr.sub_cons (by kernel_rfl) (Fr.sub_cons (by kernel_rfl) (Fr.sub_cons (by kernel_rfl) (Fr.sub_nil _)))))))))) ?_
                                  refine n98 ?_
                                  cases t90 with
                                  | true =>
                                    replace hF := ifB_t hF
                                    refine W.cond_true (by kernel_rfl) (by kernel_rfl) ?_
                                    refine W.seqK (by kernel_rfl) (fun K99 n99 e99 r99 p99 => ?_)
                                    refine W.region (by kernel_rfl) ?_
                                    refine WL.val (d := (some 125)) (v := .int .i64 t88) (h' := h_92) (by kernel_rfl) (by kernel_rfl) (by kernel_rfl) ?_
                                    refine WL.val (d := (some 126)) (v := strA t0) (h' := h_92) (by kernel_rfl) (by kernel_rfl) (by kernel_rfl) ?_
                                    refine WL.val (d := (some 127)) (v := .int .i64 (lenS t0)) (h' := h_92) (by kernel_rfl) (by kernel_rfl) (by kernel_rfl) ?_
                                    replace hF := lett_some hF; obtain ⟨t128, e100, hF⟩ := hF
                                    refine WL.val (d := (some 128)) (v := .bool t128) (h' := h_92) (by kernel_rfl) (by kernel_rfl) (val_of AV.bool e100 (by kernel_rfl)) ?_
                                    refine WL.val (d := (some 129)) (v := .bool t128) (h' := h_92) (by kernel_rfl) (by kernel_rfl) (by kernel_rfl) ?_
                                    replace hF := lett_some hF; obtain ⟨j133, e102, hF⟩ := hF
                                    have J103 : ∀ (t133 : Bool) (h_101 : AHeap), j133 t133 h_101 = some (rR, hR) → WL Try.prog w0 m0 (Func.ntmps Try.f6) (Code.ops (Code.p1 (Code.p1 (Code.p2 (Code.p1 (Code.p2 (Code.p2 (Code.p2 (Code.p2 (Code.p2 (Code.p2 (Code.p2 (Code.p2 (Code.p1 (Code.p1 (Code.p2 (Code.p2 (Code.p1 (Code.p1 (Code.p2 (Code.p1 (Code.p2 (Code.p2 (Code.p2 (Code.p2 (Code.p2 (codeOf Try.f6))))))))))))))))))))))))))) 9 K99 [(133, .bool t133)] [] h_101 := by
                                      intro t133 h_101 hF
                                      rw [e102] at hF
                                      refine WL.val (d := (some 6)) (v := .bool t133) (h' := h_101) (by kernel_rfl) (by kernel_rfl) (by kernel_rfl) ?_
                                      refine WL.nil (by kernel_rfl) ?_
                                      refine Go.weaken (l' := [(6, .bool t133)]) (Fr.sub_cons (by kernel_rfl) (Fr.sub_nil _)) ?_
                                      refine n99 ?_
                                      refine W.ret (by kernel_rfl) ?_
                                      refine r97 ?_
                                      refine r42 ?_
                                      refine r41 ?_
                                      refine r36 ?_
                                      refine r32 ?_
                                      refine r25 ?_
                                      obtain ⟨hF, hF2⟩ := ret_inj hF; subst hF; subst hF2
                                      exact leave_of (rs := [.tmp 6]) (vs := [.bool t133]) (by kernel_rfl) (res_tmp (by kernel_rfl) res_nil) (by kernel_rfl)
                                    cases t128 with
                                    | true =>
                                      replace hF := ifB_t hF
                                      refine WL.val (d := (some 130)) (v := strA t89) (h' := h_92) (by kernel_rfl) (by kernel_rfl) (by kernel_rfl) ?_
                                      refine WL.val (d := (some 131)) (v := strA t0) (h' := h_92) (by kernel_rfl) (by kernel_rfl) (by kernel_rfl) ?_
                                      replace hF := lett_some hF; obtain ⟨t132, e104, hF⟩ := hF
                                      refine WL.val (d := (some 132)) (v := .bool t132) (h' := h_92) (by kernel_rfl) (by kernel_rfl) (val_of AV.bool e104 (by kernel_rfl)) ?_
                                      refine WL.val (d := (some 133)) (v := .bool t132) (h' := h_92) (by kernel_rfl) (by kernel_rfl) (by kernel_rfl) ?_
                                      exact WL.weaken (Fr.sub_cons (by kernel_rfl) (Fr.sub_nil _)) (J103 _ _ hF)
                                    | false =>
                                      replace hF := ifB_f hF
                                      refine WL.not (d := (some 130)) (by kernel_rfl) (by kernel_rfl) ?_
                                      refine WL.not (d := (some 131)) (by kernel_rfl) (by kernel_rfl) ?_
                                      refine WL.not (d := (some 132)) (by kernel_rfl) (by kernel_rfl) ?_
                                      refine WL.val (d := (some 133)) (v := .bool false) (h' := h_92) (by kernel_rfl) (by kernel_rfl) (by kernel_rfl) ?_
                                      exact WL.weaken (Fr.sub_cons (by kernel_rfl) (Fr.sub_nil _)) (J103 _ _ hF)
                                  | false =>
                                    replace hF := ifB_f hF
                                    refine W.cond_false (by kernel_rfl) (by kernel_rfl) ?_
                                    refine W.skip (by kernel_rfl) ?_
                                    refine n97 ?_
                                    refine W.seqK (by kernel_rfl) (fun K105 n105 e105 r105 p105 => ?_)
                                    refine W.region (by kernel_rfl) ?_
                                    refine WL.val (d := (some 134)) (v := strA t89) (h' := h_92) (by kernel_rfl) (by kernel_rfl) (by kernel_rfl) ?_
                                    replace hF := lett_some hF; obtain ⟨t135, e106, hF⟩ := hF
                                    refine WL.val (d := (some 135)) (v := .bool t135) (h' := h_92) (by kernel_rfl) (by kernel_rfl) (val_of AV.bool e106 (by kernel_rfl)) ?_
                                    refine WL.nil (by kernel_rfl) ?_
                                    refine Go.weaken (l' := [(0, strA t0), (2, t2), (4, v4), (7, r31), (8, .int .i64 t88), (39, .int .i64 t39), (40, .int .i64 t40), (135, .bool t135)]) (Fr.sub_cons (by kernel_rfl) (Fr.sub_cons (by kernel_rfl) (Fr.sub_cons (by kernel_rfl) (Fr.sub_cons (by kernel_rfl) (Fr.sub_cons (by kernel_rfl) (Fr.sub_cons (by kernel_rfl) (Fr.sub_cons (by kernel_rfl) (Fr.sub_cons (by kernel_rfl) (Fr.sub_nil _))))))))) ?_
                                    refine n105 ?_
                                    cases t135 with
                                    | true =>
                                      replace hF := ifB_t hF
                                      refine W.cond_true (by kernel_rfl) (by kernel_rfl) ?_
                                      refine W.seqK (by kernel_rfl) (fun K107 n107 e107 r107 p107 => ?_)
                                      refine W.region (by kernel_rfl) ?_
                                      refine WL.val (d := (some 6)) (v := .bool false) (h' := h_92) (by kernel_rfl) (by kernel_rfl) (by kernel_rfl) ?_
                                      refine WL.nil (by kernel_rfl) ?_
                                      refine Go.weaken (l' := [(6, .bool false)]) (Fr.sub_cons (by kernel_rfl) (Fr.sub_nil _)) ?_
                                      refine n107 ?_
                                      refine W.ret (by kernel_rfl) ?_
                                      refine r42 ?_
                                      refine r41 ?_
                                      refine r36 ?_
                                      refine r32 ?_
                                      refine r25 ?_
                                      obtain ⟨hF, hF2⟩ := ret_inj hF; subst hF; subst hF2
                                      exact leave_of (rs := [.tmp 6]) (vs := [.bool false]) (by kernel_rfl) (res_tmp (by kernel_rfl) res_nil) (by kernel_rfl)
                                    | false =>
                                      replace hF := ifB_f hF
                                      refine W.cond_false (by kernel_rfl) (by kernel_rfl) ?_
                                      refine W.skip (by kernel_rfl) ?_
                                      refine n42 ?_
                                      refine n41 ?_
                                      refine W.region (by kernel_rfl) ?_
                                      replace hF := lett_some hF; obtain ⟨t136, e108, hF⟩ := hF
                                      refine WL.val (d := (some 136)) (v := .int .i64 t136) (h' := h_92) (by kernel_rfl) (by kernel_rfl) (val_of (AV.int .i64) e108 (by kernel_rfl)) ?_
                                      refine WL.val (d := (some 40)) (v := .int .i64 t136) (h' := h_92) (by kernel_rfl) (by kernel_rfl) (by kernel_rfl) ?_
                                      refine WL.nil (by kernel_rfl) ?_
                                      refine Go.weaken (l' := [(0, strA t0), (2, t2), (4, v4), (7, r31), (8, .int .i64 t88), (39, .int .i64 t39), (40, .int .i64 t136)]) (Fr.sub_cons (by kernel_rfl) (Fr.sub_cons (by kernel_rfl) (Fr.sub_cons (by kernel_rfl) (Fr.sub_cons (by kernel_rfl) (Fr.sub_cons (by kernel_rfl) (Fr.sub_cons (by kernel_rfl) (Fr.sub_cons (by kernel_rfl) (Fr.sub_nil _)))))))) ?_
                                      refine n36 ?_
                                      exact Go.weaken (Fr.sub_cons (by kernel_rfl) (Fr.sub_cons (by kernel_rfl) (Fr.sub_cons (by kernel_rfl) (Fr.sub_cons (by kernel_rfl) (Fr.sub_cons (by kernel_rfl) (Fr.sub_cons (by kernel_rfl) (Fr.sub_cons (by kernel_rfl) (Fr.sub_nil _)))))))) (ih36 _ _ _ hF)
                              cases t112 with
                              | true =>
                                replace hF := ifB_t hF
                                refine WL.not (d := (some 114)) (by kernel_rfl) (by kernel_rfl) ?_
                                refine WL.not (d := (some 115)) (by kernel_rfl) (by kernel_rfl) ?_
                                refine WL.not (d := (some 116)) (by kernel_rfl) (by kernel_rfl) ?_
                                refine WL.not (d := (some 117)) (by kernel_rfl) (by kernel_rfl) ?_
                                refine WL.not (d := (some 118)) (by kernel_rfl) (by kernel_rfl) ?_
                                refine WL.not (d := (some 119)) (by kernel_rfl) (by kernel_rfl) ?_
                                refine WL.not (d := (some 120)) (by kernel_rfl) (by kernel_rfl) ?_
                                refine WL.not (d := (some 121)) (by kernel_rfl) (by kernel_rfl) ?_
                                refine WL.val (d := (some 122)) (v := .bool true) (h' := h_89) (by kernel_rfl) (by kernel_rfl) (by kernel_rfl) ?_
                                exact WL.weaken (Fr.sub_cons (by kernel_rfl) (Fr.sub_cons (by kernel_rfl) (Fr.sub_cons (by kernel_rfl) (Fr.sub_cons (by kernel_rfl) (Fr.sub_cons (by kernel_rfl) (Fr.sub_cons (by kernel_rfl) (Fr.sub_cons (by kernel_rfl) (Fr.sub_cons (by kernel_rfl) (Fr.sub_cons (by kernel_rfl) (Fr.sub_cons (by kernel_rfl) (Fr.sub_nil _))))))))))) (J94 _ _ hF)
                              | false =>
                                replace hF := ifB_f hF
                                refine WL.val (d := (some 114)) (v := .int .i64 t10) (h' := h_89) (by kernel_rfl) (by kernel_rfl) (by kernel_rfl) ?_
                                refine WL.val (d := (some 115)) (v := .int .i64 t8) (h' := h_89) (by kernel_rfl) (by kernel_rfl) (by kernel_rfl) ?_
                                replace hF := lett_some hF; obtain ⟨t116, e109, hF⟩ := hF
                                refine WL.val (d := (some 116)) (v := .bool t116) (h' := h_89) (by kernel_rfl) (by kernel_rfl) (val_of AV.bool e109 (by kernel_rfl)) ?_
                                refine WL.val (d := (some 117)) (v := .bool t116) (h' := h_89) (by kernel_rfl) (by kernel_rfl) (by kernel_rfl) ?_
                                replace hF := lett_some hF; obtain ⟨j121, e111, hF⟩ := hF
                                have J112 : ∀ (t121 : Bool) (h_110 : AHeap), j121 t121 h_110 = some (rR, hR) → WL Try.prog w0 m0 (Func.ntmps Try.f6) (Code.ops (Code.p1 (Code.p1 (Code.p2 (Code.p2 (Code.p2 (Code.p2 (Code.p2 (Code.p2 (Code.p1 (Code.p1 (Code.p2 (Code.p2 (Code.p1 (Code.p1 (Code.p2 (Code.p1 (Code.p2 (Code.p2 (Code.p2 (Code.p2 (Code.p2 (codeOf Try.f6))))))))))))))))))))))) 31 K84 [(0, strA t0), (2, t2), (4, v4), (7, r31), (13, .int .i64 t88), (14, strA t89), (15, .bool t90), (39, .int .i64 t39), (40, .int .i64 t40), (113, .bool false), (121, .bool t121)] [] h_110 := by
                                  intro t121 h_110 hF
                                  rw [e111] at hF
                                  refine WL.val (d := (some 122)) (v := .bool t121) (h' := h_110) (by kernel_rfl) (by kernel_rfl) (by kernel_rfl) ?_
                                  exact WL.weaken (Fr.sub_cons (by kernel_rfl) (Fr.sub_cons (by kernel_rfl) (Fr.sub_cons (by kernel_rfl) (Fr.sub_cons (by kernel_rfl) (Fr.sub_cons (by kernel_rfl) (Fr.sub_cons (by kernel_rfl) (Fr.sub_cons (by kernel_rfl) (Fr.sub_cons (by kernel_rfl) (Fr.sub_cons (by kernel_rfl) (Fr.sub_cons (by kernel_rfl) (Fr.sub_nil _))))))))))) (J94 _ _ hF)
                                cases t116 with
                                | true =>
                                  replace hF := ifB_t hF
                                  refine WL.val (d := (some 118)) (v := .int .i64 t88) (h' := h_89) (by kernel_rfl) (by kernel_rfl) (by kernel_rfl) ?_
                                  refine WL.val (d := (some 119)) (v := .int .i64 t8) (h' := h_89) (by kernel_rfl) (by kernel_rfl) (by kernel_rfl) ?_
                                  replace hF := lett_some hF; obtain ⟨t120, e113, hF⟩ := hF
                                  refine WL.val (d := (some 120)) (v := .bool t120) (h' := h_89) (by kernel_rfl) (by kernel_rfl) (val_of AV.bool e113 (by kernel_rfl)) ?_
                                  refine WL.val (d := (some 121)) (v := .bool t120) (h' := h_89) (by kernel_rfl) (by kernel_rfl) (by kernel_rfl) ?_
                                  exact WL.weaken (Fr.sub_cons (by kernel_rfl) (Fr.sub_cons (by kernel_rfl) (Fr.sub_cons (by kernel_rfl) (Fr.sub_cons (by kernel_rfl) (Fr.sub_cons (by kernel_rfl) (Fr.sub_cons (by kernel_rfl) (Fr.sub_cons (by kernel_rfl) (Fr.sub_cons (by kernel_rfl) (Fr.sub_cons (by kernel_rfl) (Fr.sub_cons (by kernel_rfl) (Fr.sub_cons (by kernel_rfl) (Fr.sub_nil _)))))))))))) (J112 _ _ hF)
                                | false =>
                                  replace hF := ifB_f hF
                                  refine WL.not (d := (some 118)) (by kernel_rfl) (by kernel_rfl) ?_
                                  refine WL.not (d := (some 119)) (by kernel_rfl) (by kernel_rfl) ?_
                                  refine WL.not (d := (some 120)) (by kernel_rfl) (by kernel_rfl) ?_
                                  refine WL.val (d := (some 121)) (v := .bool false) (h' := h_89) (by kernel_rfl) (by kernel_rfl) (by kernel_rfl) ?_
                                  exact WL.weaken (Fr.sub_cons (by kernel_rfl) (Fr.sub_cons (by kernel_rfl) (Fr.sub_cons (by kernel_rfl) (Fr.sub_cons (by kernel_rfl) (Fr.sub_cons (by kernel_rfl) (Fr.sub_cons (by kernel_rfl) (Fr.sub_cons (by kernel_rfl) (Fr.sub_cons (by kernel_rfl) (Fr.sub_cons (by kernel_rfl) (Fr.sub_cons (by kernel_rfl) (Fr.sub_cons (by kernel_rfl) (Fr.sub_nil _)))))))))))) (J112 _ _ hF)
                            cases t99 with
                            | true =>
                              replace hF := ifB_t hF
                              refine WL.not (d := (some 101)) (by kernel_rfl) (by kernel_rfl) ?_
                              refine WL.not (d := (some 102)) (by kernel_rfl) (by kernel_rfl) ?_
                              refine WL.not (d := (some 103)) (by kernel_rfl) (by kernel_rfl) ?_
                              refine WL.not (d := (some 104)) (by kernel_rfl) (by kernel_rfl) ?_
                              refine WL.not (d := (some 105)) (by kernel_rfl) (by kernel_rfl) ?_
                              refine WL.not (d := (some 106)) (by kernel_rfl) (by kernel_rfl) ?_
                              refine WL.not (d := (some 107)) (by kernel_rfl) (by kernel_rfl) ?_
                              refine WL.not (d := (some 108)) (by kernel_rfl) (by kernel_rfl) ?_
                              refine WL.not (d := (some 109)) (by kernel_rfl) (by kernel_rfl) ?_
                              refine WL.not (d := (some 110)) (by kernel_rfl) (by kernel_rfl) ?_
                              refine WL.not (d := (some 111)) (by kernel_rfl) (by kernel_rfl) ?_
                              refine WL.val (d := (some 112)) (v := .bool true) (h' := h_86) (by kernel_rfl) (by kernel_rfl) (by kernel_rfl) ?_
                              exact WL.weaken (Fr.sub_cons (by kernel_rfl) (Fr.sub_cons (by kernel_rfl) (Fr.sub_cons (by kernel_rfl) (Fr.sub_cons (by kernel_rfl) (Fr.sub_cons (by kernel_rfl) (Fr.sub_cons (by kernel_rfl) (Fr.sub_cons (by kernel_rfl) (Fr.sub_cons (by kernel_rfl) (Fr.sub_cons (by kernel_rfl) (Fr.sub_cons (by kernel_rfl) (Fr.sub_cons (by kernel_rfl) (Fr.sub_cons (by kernel_rfl) (Fr.sub_nil _))))))))))))) (J91 _ _ hF)
                            | false =>
                              replace hF := ifB_f hF
                              refine WL.val (d := (some 101)) (v := .int .i64 t10) (h' := h_86) (by kernel_rfl) (by kernel_rfl) (by kernel_rfl) ?_
                              refine WL.val (d := (some 102)) (v := .int .i64 t8) (h' := h_86) (by kernel_rfl) (by kernel_rfl) (by kernel_rfl) ?_
                              replace hF := lett_some hF; obtain ⟨t103, e114, hF⟩ := hF
                              refine WL.val (d := (some 103)) (v := .bool t103) (h' := h_86) (by kernel_rfl) (by kernel_rfl) (val_of AV.bool e114 (by kernel_rfl)) ?_
                              refine WL.val (d := (some 104)) (v := .bool t103) (h' := h_86) (by kernel_rfl) (by kernel_rfl) (by kernel_rfl) ?_
                              replace hF := lett_some hF; obtain ⟨j111, e116, hF⟩ := hF
                              have J117 : ∀ (t111 : Bool) (h_115 : AHeap), j111 t111 h_115 = some (rR, hR) → WL Try.prog w0 m0 (Func.ntmps Try.f6) (Code.ops (Code.p1 (Code.p1 (Code.p2 (Code.p2 (Code.p2 (Code.p2 (Code.p2 (Code.p2 (Code.p1 (Code.p1 (Code.p2 (Code.p2 (Code.p1 (Code.p1 (Code.p2 (Code.p1 (Code.p2 (Code.p2 (Code.p2 (Code.p2 (Code.p2 (codeOf Try.f6))))))))))))))))))))))) 21 K84 [(0, strA t0), (2, t2), (4, v4), (7, r31), (8, .int .i64 t8), (10, .int .i64 t10), (13, .int .i64 t88), (14, strA t89), (15, .bool t90), (39, .int .i64 t39), (40, .int .i64 t40), (100, .bool false), (111, .bool t111)] [] h_115 := by
                                intro t111 h_115 hF
                                rw [e116] at hF
                                refine WL.val (d := (some 112)) (v := .bool t111) (h' := h_115) (by kernel_rfl) (by kernel_rfl) (by kernel_rfl) ?_
                                exact WL.weaken (Fr.sub_cons (by kernel_rfl) (Fr.sub_cons (by kernel_rfl) (Fr.sub_cons (by kernel_rfl) (Fr.sub_cons (by kernel_rfl) (Fr.sub_cons (by kernel_rfl) (Fr.sub_cons (by kernel_rfl) (Fr.sub_cons (by kernel_rfl) (Fr.sub_cons (by kernel_rfl) (Fr.sub_cons (by kernel_rfl) (Fr.sub_cons (by kernel_rfl) (Fr.sub_cons (by kernel_rfl) (Fr.sub_cons (by kernel_rfl) (Fr.sub_nil _))))))))))))) (J91 _ _ hF)
                              cases t103 with
                              | true =>
                                replace hF := ifB_t hF
                                refine WL.val (d := (some 105)) (v := .int .i64 t88) (h' := h_86) (by kernel_rfl) (by kernel_rfl) (by kernel_rfl) ?_
                                refine WL.val (d := (some 106)) (v := .int .i64 t8) (h' := h_86) (by kernel_rfl) (by kernel_rfl) (by kernel_rfl) ?_
                                refine WL.val (d := (some 107)) (v := strA t72) (h' := h_86) (by kernel_rfl) (by kernel_rfl) (by kernel_rfl) ?_
                                refine WL.val (d := (some 108)) (v := .int .i64 (lenS t72)) (h' := h_86) (by kernel_rfl) (by kernel_rfl) (by kernel_rfl) ?_
                                replace hF := lett_some hF; obtain ⟨t109, e118, hF⟩ := hF
                                refine WL.val (d := (some 109)) (v := .int .i64 t109) (h' := h_86) (by kernel_rfl) (by kernel_rfl) (val_of (AV.int .i64) e118 (by kernel_rfl)) ?_
                                replace hF := lett_some hF; obtain ⟨t110, e119, hF⟩ := hF
                                refine WL.val (d := (some 110)) (v := .bool t110) (h' := h_86) (by kernel_rfl) (by kernel_rfl) (val_of AV.bool e119 (by kernel_rfl)) ?_
                                refine WL.val (d := (some 111)) (v := .bool t110) (h' := h_86) (by kernel_rfl) (by kernel_rfl) (by kernel_rfl) ?_
                                exact WL.weaken (Fr.sub_cons (by kernel_rfl) (Fr.sub_cons (by kernel_rfl) (Fr.sub_cons (by kernel_rfl) (Fr.sub_cons (by kernel_rfl) (Fr.sub_cons (by kernel_rfl) (Fr.sub_cons (by kernel_rfl) (Fr.sub_cons (by kernel_rfl) (Fr.sub_cons (by kernel_rfl) (Fr.sub_cons (by kernel_rfl) (Fr.sub_cons (by kernel_rfl) (Fr.sub_cons (by kernel_rfl) (Fr.sub_cons (by kernel_rfl) (Fr.sub_cons (by kernel_rfl) (Fr.sub_nil _)))))))))))))) (J117 _ _ hF)
                              | false =>
                                replace hF := ifB_f hF
                                refine WL.not (d := (some 105)) (by kernel_rfl) (by kernel_rfl) ?_
                                refine WL.not (d := (some 106)) (by kernel_rfl) (by kernel_rfl) ?_
                                refine WL.not (d := (some 107)) (by kernel_rfl) (by kernel_rfl) ?_
                                refine WL.not (d := (some 108)) (by kernel_rfl) (by kernel_rfl) ?_
                                refine WL.not (d := (some 109)) (by kernel_rfl) (by kernel_rfl) ?_
                                refine WL.not (d := (some 110)) (by kernel_rfl) (by kernel_rfl) ?_
                                refine WL.val (d := (some 111)) (v := .bool false) (h' := h_86) (by kernel_rfl) (by kernel_rfl) (by kernel_rfl) ?_
                                exact WL.weaken (Fr.sub_cons (by kernel_rfl) (Fr.sub_cons (by kernel_rfl) (Fr.sub_cons (by kernel_rfl) (Fr.sub_cons (by kernel_rfl) (Fr.sub_cons (by kernel_rfl) (Fr.sub_cons (by kernel_rfl) (Fr.sub_cons (by kernel_rfl) (Fr.sub_cons (by kernel_rfl) (Fr.sub_cons (by kernel_rfl) (Fr.sub_cons (by kernel_rfl) (Fr.sub_cons (by kernel_rfl) (Fr.sub_cons (by kernel_rfl) (Fr.sub_cons (by kernel_rfl) (Fr.sub_nil _)))))))))))))) (J117 _ _ hF)
                          cases t93 with
                          | true =>
                            replace hF := ifB_t hF
                            refine WL.not (d := (some 95)) (by kernel_rfl) (by kernel_rfl) ?_
                            refine WL.not (d := (some 96)) (by kernel_rfl) (by kernel_rfl) ?_
                            refine WL.not (d := (some 97)) (by kernel_rfl) (by kernel_rfl) ?_
                            refine WL.not (d := (some 98)) (by kernel_rfl) (by kernel_rfl) ?_
                            refine WL.val (d := (some 99)) (v := .bool true) (h' := h_75) (by kernel_rfl) (by kernel_rfl) (by kernel_rfl) ?_
                            exact WL.weaken (Fr.sub_cons (by kernel_rfl) (Fr.sub_cons (by kernel_rfl) (Fr.sub_cons (by kernel_rfl) (Fr.sub_cons (by kernel_rfl) (Fr.sub_cons (by kernel_rfl) (Fr.sub_cons (by kernel_rfl) (Fr.sub_cons (by kernel_rfl) (Fr.sub_cons (by kernel_rfl) (Fr.sub_cons (by kernel_rfl) (Fr.sub_cons (by kernel_rfl) (Fr.sub_cons (by kernel_rfl) (Fr.sub_cons (by kernel_rfl) (Fr.sub_cons (by kernel_rfl) (Fr.sub_nil _)))))))))))))) (J88 _ _ hF)
                          | false =>
                            replace hF := ifB_f hF
                            refine WL.val (d := (some 95)) (v := .int .i64 t88) (h' := h_75) (by kernel_rfl) (by kernel_rfl) (by kernel_rfl) ?_
                            refine WL.val (d := (some 96)) (v := strA t0) (h' := h_75) (by kernel_rfl) (by kernel_rfl) (by kernel_rfl) ?_
                            refine WL.val (d := (some 97)) (v := .int .i64 (lenS t0)) (h' := h_75) (by kernel_rfl) (by kernel_rfl) (by kernel_rfl) ?_
                            replace hF := lett_some hF; obtain ⟨t98, e120, hF⟩ := hF
                            refine WL.val (d := (some 98)) (v := .bool t98) (h' := h_75) (by kernel_rfl) (by kernel_rfl) (val_of AV.bool e120 (by kernel_rfl)) ?_
                            refine WL.val (d := (some 99)) (v := .bool t98) (h' := h_75) (by kernel_rfl) (by kernel_rfl) (by kernel_rfl) ?_
                            exact WL.weaken (Fr.sub_cons (by kernel_rfl) (Fr.sub_cons (by kernel_rfl) (Fr.sub_cons (by kernel_rfl) (Fr.sub_cons (by kernel_rfl) (Fr.sub_cons (by kernel_rfl) (Fr.sub_cons (by kernel_rfl) (Fr.sub_cons (by kernel_rfl) (Fr.sub_cons (by kernel_rfl) (Fr.sub_cons (by kernel_rfl) (Fr.sub_cons (by kernel_rfl) (Fr.sub_cons (by kernel_rfl) (Fr.sub_cons (by kernel_rfl) (Fr.sub_cons (by kernel_rfl) (Fr.sub_nil _)))))))))))))) (J88 _ _ hF)
                      cases t63 with
                      | true =>
                        replace hF := ifB_t hF
                        refine W.cond_true (by kernel_rfl) (by kernel_rfl) ?_
                        refine W.region (by kernel_rfl) ?_
                        refine WL.val (d := (some 64)) (v := t2) (h' := h_52) (by kernel_rfl) (by kernel_rfl) (by kernel_rfl) ?_
                        refine WL.val (d := (some 65)) (v := .int .i64 t40) (h' := h_52) (by kernel_rfl) (by kernel_rfl) (by kernel_rfl) ?_
                        replace hF := obind_some hF; obtain ⟨t66, e121, hF⟩ := hF
                        refine WL.val (d := (some 66)) (v := t66) (h' := h_52) (by kernel_rfl) (by kernel_rfl) (Eq.trans (by kernel_rfl) (index_row (P := Try.prog) (h := h_52) (t := 44) (e' := 3) (k := .i64) (by kernel_rfl) (by kernel_rfl) (by kernel_rfl) e121)) ?_
                        replace hF := obind_some hF; obtain ⟨v67, e122, hF⟩ := hF
                        replace hF := obind_some hF; obtain ⟨t67, c123, hF⟩ := hF
                        have c123 := avInt_some c123
                        subst c123
                        refine WL.val (d := (some 67)) (v := .int .i64 t67) (h' := h_52) (by kernel_rfl) (by kernel_rfl) (Eq.trans (by kernel_rfl) (load_cell (P := Try.prog) (h := h_52) (t := 3) (by kernel_rfl) e122)) ?_
                        refine WL.val (d := (some 10)) (v := .int .i64 t67) (h' := h_52) (by kernel_rfl) (by kernel_rfl) (by kernel_rfl) ?_
                        refine WL.nil (by kernel_rfl) ?_
                        refine Go.weaken (l' := [(0, strA t0), (2, t2), (4, v4), (7, r31), (8, .int .i64 t8), (10, .int .i64 t67), (39, .int .i64 t39), (40, .int .i64 t40)]) (Fr.sub_cons (by kernel_rfl) (Fr.sub_cons (by kernel_rfl) (Fr.sub_cons (by kernel_rfl) (Fr.sub_cons (by kernel_rfl) (Fr.sub_cons (by kernel_rfl) (Fr.sub_cons (by kernel_rfl) (Fr.sub_cons (by kernel_rfl) (Fr.sub_cons (by kernel_rfl) (Fr.sub_nil _))))))))) ?_
                        exact Go.weaken (Fr.sub_cons (by kernel_rfl) (Fr.sub_cons (by kernel_rfl) (Fr.sub_cons (by kernel_rfl) (Fr.sub_cons (by kernel_rfl) (Fr.sub_cons (by kernel_rfl) (Fr.sub_cons (by kernel_rfl) (Fr.sub_cons (by kernel_rfl) (Fr.sub_cons (by kernel_rfl) (Fr.sub_nil _))))))))) (J55 _ _ hF)
                      | false =>
                        replace hF := ifB_f hF
                        refine W.cond_false (by kernel_rfl) (by kernel_rfl) ?_
                        refine W.skip (by kernel_rfl) ?_
                        exact Go.weaken (Fr.sub_cons (by kernel_rfl) (Fr.sub_cons (by kernel_rfl) (Fr.sub_cons (by kernel_rfl) (Fr.sub_cons (by kernel_rfl) (Fr.sub_cons (by kernel_rfl) (Fr.sub_cons (by kernel_rfl) (Fr.sub_cons (by kernel_rfl) (Fr.sub_cons (by kernel_rfl) (Fr.sub_nil _))))))))) (J55 _ _ hF)
                    cases t54 with
                    | true =>
                      replace hF := ifB_t hF
                      refine WL.val (d := (some 56)) (v := t2) (h' := h_49) (by kernel_rfl) (by kernel_rfl) (by kernel_rfl) ?_
                      refine WL.val (d := (some 57)) (v := .int .i64 t40) (h' := h_49) (by kernel_rfl) (by kernel_rfl) (by kernel_rfl) ?_
                      replace hF := obind_some hF; obtain ⟨t58, e124, hF⟩ := hF
                      refine WL.val (d := (some 58)) (v := t58) (h' := h_49) (by kernel_rfl) (by kernel_rfl) (Eq.trans (by kernel_rfl) (index_row (P := Try.prog) (h := h_49) (t := 44) (e' := 3) (k := .i64) (by kernel_rfl) (by kernel_rfl) (by kernel_rfl) e124)) ?_
                      replace hF := obind_some hF; obtain ⟨v59, e125, hF⟩ := hF
                      replace hF := obind_some hF; obtain ⟨t59, c126, hF⟩ := hF
                      have c126 := avInt_some c126
                      subst c126
                      refine WL.val (d := (some 59)) (v := .int .i64 t59) (h' := h_49) (by kernel_rfl) (by kernel_rfl) (Eq.trans (by kernel_rfl) (load_cell (P := Try.prog) (h := h_49) (t := 3) (by kernel_rfl) e125)) ?_
                      refine WL.val (d := (some 60)) (v := strA t0) (h' := h_49) (by kernel_rfl) (by kernel_rfl) (by kernel_rfl) ?_
                      refine WL.val (d := (some 61)) (v := .int .i64 (lenS t0)) (h' := h_49) (by kernel_rfl) (by kernel_rfl) (by kernel_rfl) ?_
                      replace hF := lett_some hF; obtain ⟨t62, e127, hF⟩ := hF
                      refine WL.val (d := (some 62)) (v := .bool t62) (h' := h_49) (by kernel_rfl) (by kernel_rfl) (val_of AV.bool e127 (by kernel_rfl)) ?_
                      refine WL.val (d := (some 63)) (v := .bool t62) (h' := h_49) (by kernel_rfl) (by kernel_rfl) (by kernel_rfl) ?_
                      exact WL.weaken (Fr.sub_cons (by kernel_rfl) (Fr.sub_cons (by kernel_rfl) (Fr.sub_cons (by kernel_rfl) (Fr.sub_cons (by kernel_rfl) (Fr.sub_cons (by kernel_rfl) (Fr.sub_cons (by kernel_rfl) (Fr.sub_cons (by kernel_rfl) (Fr.sub_cons (by kernel_rfl) (Fr.sub_cons (by kernel_rfl) (Fr.sub_cons (by kernel_rfl) (Fr.sub_nil _))))))))))) (J54 _ _ hF)
                    | false =>
                      replace hF := ifB_f hF
                      refine WL.not (d := (some 56)) (by kernel_rfl) (by kernel_rfl) ?_
                      refine WL.not (d := (some 57)) (by kernel_rfl) (by kernel_rfl) ?_
                      refine WL.not (d := (some 58)) (by kernel_rfl) (by kernel_rfl) ?_
                      refine WL.not (d := (some 59)) (by kernel_rfl) (by kernel_rfl) ?_
                      refine WL.not (d := (some 60)) (by kernel_rfl) (by kernel_rfl) ?_
                      refine WL.not (d := (some 61)) (by kernel_rfl) (by kernel_rfl) ?_
                      refine WL.not (d := (some 62)) (by kernel_rfl) (by kernel_rfl) ?_
                      refine WL.val (d := (some 63)) (v := .bool false) (h' := h_49) (by kernel_rfl) (by kernel_rfl) (by kernel_rfl) ?_
                      exact WL.weaken (Fr.sub_cons (by kernel_rfl) (Fr.sub_cons (by kernel_rfl) (Fr.sub_cons (by kernel_rfl) (Fr.sub_cons (by kernel_rfl) (Fr.sub_cons (by kernel_rfl) (Fr.sub_cons (by kernel_rfl) (Fr.sub_cons (by kernel_rfl) (Fr.sub_cons (by kernel_rfl) (Fr.sub_cons (by kernel_rfl) (Fr.sub_cons (by kernel_rfl) (Fr.sub_nil _))))))))))) (J54 _ _ hF)
                  cases t47 with
                  | true =>
                    replace hF := ifB_t hF
                    refine WL.val (d := (some 49)) (v := t2) (h' := h_37) (by kernel_rfl) (by kernel_rfl) (by kernel_rfl) ?_
                    refine WL.val (d := (some 50)) (v := .int .i64 t40) (h' := h_37) (by kernel_rfl) (by kernel_rfl) (by kernel_rfl) ?_
                    replace hF := obind_some hF; obtain ⟨t51, e128, hF⟩ := hF
                    refine WL.val (d := (some 51)) (v := t51) (h' := h_37) (by kernel_rfl) (by kernel_rfl) (Eq.trans (by kernel_rfl) (index_row (P := Try.prog) (h := h_37) (t := 44) (e' := 3) (k := .i64) (by kernel_rfl) (by kernel_rfl) (by kernel_rfl) e128)) ?_
                    replace hF := obind_some hF; obtain ⟨v52, e129, hF⟩ := hF
                    replace hF := obind_some hF; obtain ⟨t52, c130, hF⟩ := hF
                    have c130 := avInt_some c130
                    subst c130
                    refine WL.val (d := (some 52)) (v := .int .i64 t52) (h' := h_37) (by kernel_rfl) (by kernel_rfl) (Eq.trans (by kernel_rfl) (load_cell (P := Try.prog) (h := h_37) (t := 3) (by kernel_rfl) e129)) ?_
                    replace hF := lett_some hF; obtain ⟨t53, e131, hF⟩ := hF
                    refine WL.val (d := (some 53)) (v := .bool t53) (h' := h_37) (by kernel_rfl) (by kernel_rfl) (val_of AV.bool e131 (by kernel_rfl)) ?_
                    refine WL.val (d := (some 54)) (v := .bool t53) (h' := h_37) (by kernel_rfl) (by kernel_rfl) (by kernel_rfl) ?_
                    exact WL.weaken (Fr.sub_cons (by kernel_rfl) (Fr.sub_cons (by kernel_rfl) (Fr.sub_cons (by kernel_rfl) (Fr.sub_cons (by kernel_rfl) (Fr.sub_cons (by kernel_rfl) (Fr.sub_cons (by kernel_rfl) (Fr.sub_cons (by kernel_rfl) (Fr.sub_cons (by kernel_rfl) (Fr.sub_cons (by kernel_rfl) (Fr.sub_cons (by kernel_rfl) (Fr.sub_nil _))))))))))) (J51 _ _ hF)
                  | false =>
                    replace hF := ifB_f hF
                    refine WL.not (d := (some 49)) (by kernel_rfl) (by kernel_rfl) ?_
                    refine WL.not (d := (some 50)) (by kernel_rfl) (by kernel_rfl) ?_
                    refine WL.not (d := (some 51)) (by kernel_rfl) (by kernel_rfl) ?_
                    refine WL.not (d := (some 52)) (by kernel_rfl) (by kernel_rfl) ?_
                    refine WL.not (d := (some 53)) (by kernel_rfl) (by kernel_rfl) ?_
                    refine WL.val (d := (some 54)) (v := .bool false) (h' := h_37) (by kernel_rfl) (by kernel_rfl) (by kernel_rfl) ?_
                    exact WL.weaken (Fr.sub_cons (by kernel_rfl) (Fr.sub_cons (by kernel_rfl) (Fr.sub_cons (by kernel_rfl) (Fr.sub_cons (by kernel_rfl) (Fr.sub_cons (by kernel_rfl) (Fr.sub_cons (by kernel_rfl) (Fr.sub_cons (by kernel_rfl) (Fr.sub_cons (by kernel_rfl) (Fr.sub_cons (by kernel_rfl) (Fr.sub_cons (by kernel_rfl) (Fr.sub_nil _))))))))))) (J51 _ _ hF)
                | false =>
                  replace hF := ifB_f hF
                  refine W.cond_false (by kernel_rfl) (by kernel_rfl) ?_
                  refine W.exit (by kernel_rfl) ?_
                  refine e40 ?_
                  refine e36 ?_
                  refine s32 (by kernel_rfl) ?_
                  exact Go.weaken (Fr.sub_nil _) (J33 _ hF)
            exact Go.weaken (Fr.sub_cons (by kernel_rfl) (Fr.sub_cons (by kernel_rfl) (Fr.sub_cons (by kernel_rfl) (Fr.sub_cons (by kernel_rfl) (Fr.sub_cons (by kernel_rfl) (Fr.sub_cons (by kernel_rfl) (Fr.sub_cons (by kernel_rfl) (Fr.sub_nil _)))))))) (L36 _ _ _ _ hF)
        cases t25 with
        | true =>
          replace hF := ifB_t hF
          refine WL.not (d := (some 27)) (by kernel_rfl) (by kernel_rfl) ?_
          refine WL.not (d := (some 28)) (by kernel_rfl) (by kernel_rfl) ?_
          refine WL.not (d := (some 29)) (by kernel_rfl) (by kernel_rfl) ?_
          refine WL.val (d := (some 30)) (v := .bool true) (h' := h_14) (by kernel_rfl) (by kernel_rfl) (by kernel_rfl) ?_
          exact WL.weaken (Fr.sub_cons (by kernel_rfl) (Fr.sub_cons (by kernel_rfl) (Fr.sub_cons (by kernel_rfl) (Fr.sub_cons (by kernel_rfl) (Fr.sub_nil _))))) (J19 _ _ hF)
        | false =>
          replace hF := ifB_f hF
          refine WL.val (d := (some 27)) (v := t2) (h' := h_14) (by kernel_rfl) (by kernel_rfl) (by kernel_rfl) ?_
          replace hF := obind_some hF; obtain ⟨t28, e132, hF⟩ := hF
          refine WL.val (d := (some 28)) (v := .int .i64 t28) (h' := h_14) (by kernel_rfl) (by kernel_rfl) (Eq.trans (by kernel_rfl) (len_row (P := Try.prog) (h := h_14) (t := 44) (e' := 3) (by kernel_rfl) e132)) ?_
          replace hF := lett_some hF; obtain ⟨t29, e133, hF⟩ := hF
          refine WL.val (d := (some 29)) (v := .bool t29) (h' := h_14) (by kernel_rfl) (by kernel_rfl) (val_of AV.bool e133 (by kernel_rfl)) ?_
          refine WL.val (d := (some 30)) (v := .bool t29) (h' := h_14) (by kernel_rfl) (by kernel_rfl) (by kernel_rfl) ?_
          exact WL.weaken (Fr.sub_cons (by kernel_rfl) (Fr.sub_cons (by kernel_rfl) (Fr.sub_cons (by kernel_rfl) (Fr.sub_cons (by kernel_rfl) (Fr.sub_nil _))))) (J19 _ _ hF)
      cases t20 with
      | true =>
        replace hF := ifB_t hF
        refine WL.not (d := (some 22)) (by kernel_rfl) (by kernel_rfl) ?_
        refine WL.not (d := (some 23)) (by kernel_rfl) (by kernel_rfl) ?_
        refine WL.not (d := (some 24)) (by kernel_rfl) (by kernel_rfl) ?_
        refine WL.val (d := (some 25)) (v := .bool true) (h' := h_6) (by kernel_rfl) (by kernel_rfl) (by kernel_rfl) ?_
        exact WL.weaken (Fr.sub_cons (by kernel_rfl) (Fr.sub_cons (by kernel_rfl) (Fr.sub_cons (by kernel_rfl) (Fr.sub_cons (by kernel_rfl) (Fr.sub_nil _))))) (J16 _ _ hF)
      | false =>
        replace hF := ifB_f hF
        replace hF := obind_some hF; obtain ⟨t22, e134, hF⟩ := hF
        refine WL.val (d := (some 22)) (v := t22) (h' := h_6) (by kernel_rfl) (by kernel_rfl) (Eq.trans (by kernel_rfl) (field_ptr (P := Try.prog) (h := h_6) (s := 39) (f := 0) (by kernel_rfl) e134)) ?_
        replace hF := obind_some hF; obtain ⟨v23, e135, hF⟩ := hF
        replace hF := obind_some hF; obtain ⟨t23, c136, hF⟩ := hF
        have c136 := avInt_some c136
        subst c136
        refine WL.val (d := (some 23)) (v := .int .i64 t23) (h' := h_6) (by kernel_rfl) (by kernel_rfl) (Eq.trans (by kernel_rfl) (load_cell (P := Try.prog) (h := h_6) (t := 3) (by kernel_rfl) e135)) ?_
        replace hF := lett_some hF; obtain ⟨t24, e137, hF⟩ := hF
        refine WL.val (d := (some 24)) (v := .bool t24) (h' := h_6) (by kernel_rfl) (by kernel_rfl) (val_of AV.bool e137 (by kernel_rfl)) ?_
        refine WL.val (d := (some 25)) (v := .bool t24) (h' := h_6) (by kernel_rfl) (by kernel_rfl) (by kernel_rfl) ?_
        exact WL.weaken (Fr.sub_cons (by kernel_rfl) (Fr.sub_cons (by kernel_rfl) (Fr.sub_cons (by kernel_rfl) (Fr.sub_cons (by kernel_rfl) (Fr.sub_nil _))))) (J16 _ _ hF)
  · obtain ⟨q1, q2⟩ := pan_inj q138; subst q1; subst q2
    exact WL.callPanic (hc.ok w0) (d := (some 16)) (by kernel_rfl) (by kernel_rfl) (by kernel_rfl) e7 (p5 (p4 Pan.fin))
noncomputable def law19_SnapComes_fn (call : CallF) (n : Nat) : FnT := fun args h => match args with
  | [x0, x1, x2] => obind (avStr x0) fun t0 => obind (avAgg x1) fun t1 => law19_SnapComes call n t0 t1 x2 h
  | _ => none
set_option maxRecDepth 100000 in
theorem law19_SnapComes_fn_eq (call : CallF) (n : Nat) (t0 : Bytes) (t1 : List AV) (t2 : AV) (h : AHeap) : law19_SnapComes_fn call n [strA t0, .agg t1, t2] h = law19_SnapComes call n t0 t1 t2 h :=
  (Eq.trans (obind_eq (fun t0 => obind (avAgg (.agg t1)) fun t1 => law19_SnapComes call n t0 t1 t2 h) (avStr_str t0)) (Eq.trans (obind_eq (fun t1 => law19_SnapComes call n t0 t1 t2 h) (avAgg_agg t1)) rfl))
theorem law19_SnapComes_holds {call : CallF} (hc : SaysAll Try.prog call) (n : Nat) : Holds Try.prog 6 (law19_SnapComes_fn call n) := by
  intro args h r h2 e
  unfold law19_SnapComes_fn at e
  split at e
  · replace e := obind_some e; obtain ⟨t0, c0, e⟩ := e; have c0 := avStr_some c0; subst c0
    replace e := obind_some e; obtain ⟨t1, c1, e⟩ := e; have c1 := avAgg_some c1; subst c1
    exact law19_SnapComes_ok hc e
  · cases e

end Go.Proofs.Ytpnccmlajhhpdaa
