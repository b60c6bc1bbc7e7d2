/- Plain functions in place of the program's, and that their calls come to what they say. -/
import Derived.Test.YtpnccmlajhhpdaaFrame
import Derived.Test.YtpnccmlajhhpdaaAbs25
import Derived.Test.YtpnccmlajhhpdaaAbs36
import Derived.Test.YtpnccmlajhhpdaaAbs33
namespace Go.Proofs.Ytpnccmlajhhpdaa
open Go.RowKit Abs

noncomputable def law19_SnapPieces_L1b (t2 : AV) (t27 : Int) (k14 : Int → AHeap → R) (self : Int → Int → AHeap → R) (t7_118 : Int) (t28 : Int) (h_119 : AHeap) : R :=
  lett (decide (t28 < t27)) fun (t29 : Bool) =>
  ifB t29
  (
    obind (idxP 22 t2 t28) fun t30 =>
    obind (ldRow h_119 22 t30) fun t31 =>
    lett (newH h_119 35 [.int .u8 0, .int .i64 0, .int .i64 0, .int .i64 0, .int .i64 0, .int .i64 0, .int .i64 0, .int .i64 0, .bool false, .nsl, .int .i64 0, .int .i64 0, .str 0 0, .int .i64 0, .int .i64 0, .int .i64 0, .int .i64 0, .int .i64 0, .int .i64 0, .int .u8 0, .int .i64 0, .int .i64 0]) fun h_128 =>
    obind (stRow h_128 22 t31 (newP h_119)) fun h_130 =>
    obind (ldCell h_130 (AV.ptr (AHeap.next h_119) 12)) fun v34 =>
    obind (avStr v34) fun t34 =>
    lett (if 262144 < (lenS t34) then 262144 else (lenS t34)) fun (t36 : Int) =>
    lett (IntKind.i64.wrap (t7_118 + t36)) fun (t37 : Int) =>
    lett (decide (t37 > 131072)) fun (t39 : Bool) =>
    ifB t39
    (
      some (.ret (.bool true), h_130))
    (
      lett (IntKind.i64.wrap (t28 + 1)) fun (t40 : Int) =>
      self t37 t40 h_130))
  (
    k14 t7_118 h_119)
noncomputable def law19_SnapPieces_L1 (t2 : AV) (t27 : Int) (k14 : Int → AHeap → R) : Nat → Int → Int → AHeap → R := iterR (fun _ _ _ => none) (law19_SnapPieces_L1b t2 t27 k14)
theorem law19_SnapPieces_L1_s (t2 : AV) (t27 : Int) (k14 : Int → AHeap → R) (m : Nat) : law19_SnapPieces_L1 t2 t27 k14 (m + 1) = law19_SnapPieces_L1b t2 t27 k14 (law19_SnapPieces_L1 t2 t27 k14 m) := rfl
noncomputable def law19_SnapPieces_L0b (call : CallF) (t2 : AV) (r84 : AV) (v86 : AV) (t88 : Int) (k48 : AHeap → R) (self : Int → AHeap → R) (t89 : Int) (h_52 : AHeap) : R :=
  lett (decide (t89 < t88)) fun (t90 : Bool) =>
  ifB t90
  (
    obind (idxP 22 t2 t89) fun t91 =>
    obind (ldRow h_52 22 t91) fun t92 =>
    lett (newH h_52 35 [.int .u8 0, .int .i64 0, .int .i64 0, .int .i64 0, .int .i64 0, .int .i64 0, .int .i64 0, .int .i64 0, .bool false, .nsl, .int .i64 0, .int .i64 0, .str 0 0, .int .i64 0, .int .i64 0, .int .i64 0, .int .i64 0, .int .i64 0, .int .i64 0, .int .u8 0, .int .i64 0, .int .i64 0]) fun h_61 =>
    obind (stRow h_61 22 t92 (newP h_52)) fun h_63 =>
    obind (ldRow h_63 22 (newP h_52)) fun t95 =>
    callN (call 12 [r84, .agg t95] h_63) fun r96 h_67 =>
    obind (extT 0 r96) fun v97 =>
    obind (avInt .i64 v97) fun t97 =>
    obind (extT 1 r96) fun v98 =>
    obind (avStr v98) fun t98 =>
    obind (extT 2 r96) fun v99 =>
    obind (avBool v99) fun t99 =>
    obind (ldRow h_67 22 (newP h_52)) fun t102 =>
    callN (call 18 [v86, .agg t102] h_67) fun r103 h_77 =>
    obind (extT 0 r103) fun v104 =>
    obind (avInt .i64 v104) fun t104 =>
    obind (extT 1 r103) fun v105 =>
    obind (avStr v105) fun t105 =>
    obind (extT 2 r103) fun v106 =>
    obind (avBool v106) fun t106 =>
    lett ((t97 : Int) != t104) fun (t109 : Bool) =>
    lett (fun (t114 : Bool) (h_87 : AHeap) =>
      lett (fun (t119 : Bool) (h_90 : AHeap) =>
        ifB t119
        (
          some (.ret (.bool false), h_90))
        (
          lett (IntKind.i64.wrap (t89 + 1)) fun (t120 : Int) =>
          self t120 h_90)) fun j119 =>
      ifB t114
      (
        j119 true h_87)
      (
        lett (!((t99 : Bool) == t106)) fun (t118 : Bool) =>
        j119 t118 h_87)) fun j114 =>
    ifB t109
    (
      j114 true h_77)
    (
      lett (!eqS t98 t105) fun (t113 : Bool) =>
      j114 t113 h_77))
  (
    k48 h_52)
noncomputable def law19_SnapPieces_L0 (call : CallF) (t2 : AV) (r84 : AV) (v86 : AV) (t88 : Int) (k48 : AHeap → R) : Nat → Int → AHeap → R := iterR (fun _ _ => none) (law19_SnapPieces_L0b call t2 r84 v86 t88 k48)
theorem law19_SnapPieces_L0_s (call : CallF) (t2 : AV) (r84 : AV) (v86 : AV) (t88 : Int) (k48 : AHeap → R) (m : Nat) : law19_SnapPieces_L0 call t2 r84 v86 t88 k48 (m + 1) = law19_SnapPieces_L0b call t2 r84 v86 t88 k48 (law19_SnapPieces_L0 call t2 r84 v86 t88 k48 m) := rfl
noncomputable def law19_SnapPieces (call : CallF) (n : Nat) (t0 : Bytes) (t1 : Int) (t2 : AV) (h : AHeap) : R :=
  callK (call 8 [] h) fun r22 h_4 =>
  obind (avBool r22) fun t22 =>
  lett (!t22) fun (t23 : Bool) =>
  ifB t23
  (
    some (.ret (.bool false), h_4))
  (
    obind (lenL t2) fun t27 =>
    lett (fun (t7 : Int) (h_15 : AHeap) =>
      lett (decide (t7 > 131072)) fun (t42 : Bool) =>
      lett (fun (t47 : Bool) (h_19 : AHeap) =>
        ifB t47
        (
          some (.ret (.bool true), h_19))
        (
          callN (call 10 [strA t0, .int .i64 t1] h_19) fun r51 h_24 =>
          obind (extT 0 r51) fun v52 =>
          obind (avStr v52) fun t52 =>
          obind (extT 1 r51) fun v53 =>
          obind (avInt .i64 v53) fun t53 =>
          lett (decide (t1 < 0)) fun (t56 : Bool) =>
          lett (fun (t62 : Bool) (h_34 : AHeap) =>
            lett (fun  (h_38 : AHeap) =>
              callN (call 11 [] h_38) fun r84 h_40 =>
              outK (opBox h_40 50 (some (.agg ([.int .i64 0, .int .i64 0, .int .i64 0, .str 0 0] : List AV)))) fun v86 h_42 =>
              obind (lenL t2) fun t88 =>
              lett (fun  (h_49 : AHeap) =>
                some (.ret (.bool true), h_49)) fun k48 =>
              law19_SnapPieces_L0 call t2 r84 v86 t88 k48 n 0 h_42) fun k37 =>
            ifB t62
            (
              lett (!eqS t52 ([] : Bytes)) fun (t64 : Bool) =>
              lett (fun (t68 : Bool) (h_99 : AHeap) =>
                ifB t68
                (
                  some (.ret (.bool false), h_99))
                (
                  k37 h_99)) fun j68 =>
              ifB t64
              (
                j68 true h_34)
              (
                lett ((t53 : Int) != 5) fun (t67 : Bool) =>
                j68 t67 h_34))
            (
              lett ((t53 : Int) != 0) fun (t71 : Bool) =>
              lett (fun (t83 : Bool) (h_106 : AHeap) =>
                ifB t83
                (
                  some (.ret (.bool false), h_106))
                (
                  k37 h_106)) fun j83 =>
              ifB t71
              (
                j83 true h_34)
              (
                lett (IntKind.i64.wrap (t1 + 2048)) fun (t77 : Int) =>
                lett (if (lenS t0) < t77 then (lenS t0) else t77) fun (t80 : Int) =>
                obind (sliceS t0 t1 t80) fun t81 =>
                lett (!eqS t52 t81) fun (t82 : Bool) =>
                j83 t82 h_34))) fun j62 =>
          ifB t56
          (
            j62 true h_24)
          (
            lett (decide (t1 > (lenS t0))) fun (t61 : Bool) =>
            j62 t61 h_24))) fun j47 =>
      ifB t42
      (
        j47 true h_15)
      (
        obind (lenL t2) fun t45 =>
        lett (decide (t45 > 300)) fun (t46 : Bool) =>
        j47 t46 h_15)) fun k14 =>
    law19_SnapPieces_L1 t2 t27 k14 n (lenS t0) 0 h_4)
set_option maxHeartbeats 4000000 in
set_option maxRecDepth 20000 in
theorem law19_SnapPieces_ok {call : CallF} (hc : SaysAll Try.prog call) {n : Nat} {t0 : Bytes} {t1 : Int} {t2 : AV} {h : AHeap} {rR : ARes} {hR : AHeap} (hF : law19_SnapPieces call n t0 t1 t2 h = some (rR, hR)) : Says Try.prog 4 [strA t0, .int .i64 t1, t2] h rR hR := by
  unfold law19_SnapPieces at hF
  refine says_of (fn := Try.f4) Try.func4 (c := codeOf Try.f4) (by kernel_rfl) (by kernel_rfl) (fun w0 m0 => ?_)
  refine W.weaken (l' := [(0, strA t0), (1, .int .i64 t1), (2, t2)]) (Fr.sub_cons (by kernel_rfl) (Fr.sub_cons (by kernel_rfl) (Fr.sub_cons (by kernel_rfl) (Fr.sub_nil _)))) ?_
  refine W.seqK (by kernel_rfl) (fun K1 n1 e1 r1 p1 => ?_)
  refine W.region (by kernel_rfl) ?_
  refine WL.val (d := (some 6)) (v := .bool false) (h' := h) (by kernel_rfl) (by kernel_rfl) (by kernel_rfl) ?_
  refine WL.nil (by kernel_rfl) ?_
  refine Go.weaken (l' := [(0, strA t0), (1, .int .i64 t1), (2, t2)]) (Fr.sub_cons (by kernel_rfl) (Fr.sub_cons (by kernel_rfl) (Fr.sub_cons (by kernel_rfl) (Fr.sub_nil _)))) ?_
  refine n1 ?_
  refine W.seqK (by kernel_rfl) (fun K2 n2 e2 r2 p2 => ?_)
  refine W.seqK (by kernel_rfl) (fun K3 n3 e3 r3 p3 => ?_)
  refine W.region (by kernel_rfl) ?_
  replace hF := callK_some hF; rcases hF with ⟨r22, h_4, e5, hF⟩ | ⟨r22, h_4, e5, q141⟩
  · replace hF := obind_some hF; obtain ⟨t22, c6, hF⟩ := hF
    have c6 := avBool_some c6
    subst c6
    refine WL.call (hc.ok w0) (d := (some 22)) (by kernel_rfl) (by kernel_rfl) (by kernel_rfl) e5 ?_
    replace hF := lett_some hF; obtain ⟨t23, e7, hF⟩ := hF
    refine WL.val (d := (some 23)) (v := .bool t23) (h' := h_4) (by kernel_rfl) (by kernel_rfl) (val_of AV.bool e7 (by kernel_rfl)) ?_
    refine WL.nil (by kernel_rfl) ?_
    refine Go.weaken (l' := [(0, strA t0), (1, .int .i64 t1), (2, t2), (23, .bool t23)]) (Fr.sub_cons (by kernel_rfl) (Fr.sub_cons (by kernel_rfl) (Fr.sub_cons (by kernel_rfl) (Fr.sub_cons (by kernel_rfl) (Fr.sub_nil _))))) ?_
    refine n3 ?_
    cases t23 with
    | true =>
      replace hF := ifB_t hF
      refine W.cond_true (by kernel_rfl) (by kernel_rfl) ?_
      refine W.seqK (by kernel_rfl) (fun K8 n8 e8 r8 p8 => ?_)
      refine W.region (by kernel_rfl) ?_
      refine WL.val (d := (some 6)) (v := .bool false) (h' := h_4) (by kernel_rfl) (by kernel_rfl) (by kernel_rfl) ?_
      refine WL.nil (by kernel_rfl) ?_
      refine Go.weaken (l' := [(6, .bool false)]) (Fr.sub_cons (by kernel_rfl) (Fr.sub_nil _)) ?_
      refine n8 ?_
      refine W.ret (by kernel_rfl) ?_
      refine r2 ?_
      obtain ⟨hF, hF2⟩ := ret_inj hF; subst hF; subst hF2
      exact leave_of (rs := [.tmp 6]) (vs := [.bool false]) (by kernel_rfl) (res_tmp (by kernel_rfl) res_nil) (by kernel_rfl)
    | false =>
      replace hF := ifB_f hF
      refine W.cond_false (by kernel_rfl) (by kernel_rfl) ?_
      refine W.skip (by kernel_rfl) ?_
      refine n2 ?_
      refine W.seqK (by kernel_rfl) (fun K9 n9 e9 r9 p9 => ?_)
      refine W.region (by kernel_rfl) ?_
      refine WL.val (d := (some 24)) (v := strA t0) (h' := h_4) (by kernel_rfl) (by kernel_rfl) (by kernel_rfl) ?_
      refine WL.val (d := (some 25)) (v := .int .i64 (lenS t0)) (h' := h_4) (by kernel_rfl) (by kernel_rfl) (by kernel_rfl) ?_
      refine WL.val (d := (some 7)) (v := .int .i64 (lenS t0)) (h' := h_4) (by kernel_rfl) (by kernel_rfl) (by kernel_rfl) ?_
      refine WL.nil (by kernel_rfl) ?_
      refine Go.weaken (l' := [(0, strA t0), (1, .int .i64 t1), (2, t2), (7, .int .i64 (lenS t0))]) (Fr.sub_cons (by kernel_rfl) (Fr.sub_cons (by kernel_rfl) (Fr.sub_cons (by kernel_rfl) (Fr.sub_cons (by kernel_rfl) (Fr.sub_nil _))))) ?_
      refine n9 ?_
      refine W.seqK (by kernel_rfl) (fun K10 n10 e10 r10 p10 => ?_)
      refine W.seqK (by kernel_rfl) (fun K11 n11 e11 r11 p11 => ?_)
      refine W.region (by kernel_rfl) ?_
      refine WL.val (d := (some 26)) (v := t2) (h' := h_4) (by kernel_rfl) (by kernel_rfl) (by kernel_rfl) ?_
      replace hF := obind_some hF; obtain ⟨t27, e12, hF⟩ := hF
      refine WL.val (d := (some 27)) (v := .int .i64 t27) (h' := h_4) (by kernel_rfl) (by kernel_rfl) (Eq.trans (by kernel_rfl) (len_row (P := Try.prog) (h := h_4) (t := 47) (e' := 35) (by kernel_rfl) e12)) ?_
      refine WL.val (d := (some 28)) (v := .int .i64 0) (h' := h_4) (by kernel_rfl) (by kernel_rfl) (by kernel_rfl) ?_
      refine WL.nil (by kernel_rfl) ?_
      refine Go.weaken (l' := [(0, strA t0), (1, .int .i64 t1), (2, t2), (7, .int .i64 (lenS t0)), (26, t2), (27, .int .i64 t27), (28, .int .i64 0)]) (Fr.sub_cons (by kernel_rfl) (Fr.sub_cons (by kernel_rfl) (Fr.sub_cons (by kernel_rfl) (Fr.sub_cons (by kernel_rfl) (Fr.sub_cons (by kernel_rfl) (Fr.sub_cons (by kernel_rfl) (Fr.sub_cons (by kernel_rfl) (Fr.sub_nil _)))))))) ?_
      refine n11 ?_
      replace hF := lett_some hF; obtain ⟨k14, e14, hF⟩ := hF
      have J14 : ∀ (t7 : Int) (h_15 : AHeap), k14 t7 h_15 = some (rR, hR) → Go w0 m0 (Func.ntmps Try.f4) (K10 .normal) [(0, strA t0), (1, .int .i64 t1), (2, t2), (7, .int .i64 t7)] [] h_15 := by
        intro t7 h_15 hF
        rw [e14] at hF
        refine n10 ?_
        refine W.seqK (by kernel_rfl) (fun K16 n16 e16 r16 p16 => ?_)
        refine W.seqK (by kernel_rfl) (fun K17 n17 e17 r17 p17 => ?_)
        refine W.region (by kernel_rfl) ?_
        refine WL.val (d := (some 41)) (v := .int .i64 t7) (h' := h_15) (by kernel_rfl) (by kernel_rfl) (by kernel_rfl) ?_
        replace hF := lett_some hF; obtain ⟨t42, e18, hF⟩ := hF
        refine WL.val (d := (some 42)) (v := .bool t42) (h' := h_15) (by kernel_rfl) (by kernel_rfl) (val_of AV.bool e18 (by kernel_rfl)) ?_
        refine WL.val (d := (some 43)) (v := .bool t42) (h' := h_15) (by kernel_rfl) (by kernel_rfl) (by kernel_rfl) ?_
        replace hF := lett_some hF; obtain ⟨j47, e20, hF⟩ := hF
        have J21 : ∀ (t47 : Bool) (h_19 : AHeap), j47 t47 h_19 = some (rR, hR) → WL Try.prog w0 m0 (Func.ntmps Try.f4) (Code.ops (Code.p1 (Code.p1 (Code.p2 (Code.p2 (Code.p2 (Code.p2 (codeOf Try.f4)))))))) 7 K17 [(0, strA t0), (1, .int .i64 t1), (2, t2), (47, .bool t47)] [] h_19 := by
          intro t47 h_19 hF
          rw [e20] at hF
          refine WL.nil (by kernel_rfl) ?_
          refine Go.weaken (l' := [(0, strA t0), (1, .int .i64 t1), (2, t2), (47, .bool t47)]) (Fr.sub_cons (by kernel_rfl) (Fr.sub_cons (by kernel_rfl) (Fr.sub_cons (by kernel_rfl) (Fr.sub_cons (by kernel_rfl) (Fr.sub_nil _))))) ?_
          refine n17 ?_
          cases t47 with
          | true =>
            replace hF := ifB_t hF
            refine W.cond_true (by kernel_rfl) (by kernel_rfl) ?_
            refine W.seqK (by kernel_rfl) (fun K22 n22 e22 r22 p22 => ?_)
            refine W.region (by kernel_rfl) ?_
            refine WL.val (d := (some 6)) (v := .bool true) (h' := h_19) (by kernel_rfl) (by kernel_rfl) (by kernel_rfl) ?_
            refine WL.nil (by kernel_rfl) ?_
            refine Go.weaken (l' := [(6, .bool true)]) (Fr.sub_cons (by kernel_rfl) (Fr.sub_nil _)) ?_
            refine n22 ?_
            refine W.ret (by kernel_rfl) ?_
            refine r16 ?_
            obtain ⟨hF, hF2⟩ := ret_inj hF; subst hF; subst hF2
            exact leave_of (rs := [.tmp 6]) (vs := [.bool true]) (by kernel_rfl) (res_tmp (by kernel_rfl) res_nil) (by kernel_rfl)
          | false =>
            replace hF := ifB_f hF
            refine W.cond_false (by kernel_rfl) (by kernel_rfl) ?_
            refine W.skip (by kernel_rfl) ?_
            refine n16 ?_
            refine W.seqK (by kernel_rfl) (fun K23 n23 e23 r23 p23 => ?_)
            refine W.region (by kernel_rfl) ?_
            refine WL.val (d := (some 49)) (v := strA t0) (h' := h_19) (by kernel_rfl) (by kernel_rfl) (by kernel_rfl) ?_
            refine WL.val (d := (some 50)) (v := .int .i64 t1) (h' := h_19) (by kernel_rfl) (by kernel_rfl) (by kernel_rfl) ?_
            replace hF := callN_some hF; obtain ⟨r51, h_24, e25, hF⟩ := hF
            refine WL.call (hc.ok w0) (d := (some 51)) (by kernel_rfl) (by kernel_rfl) (by kernel_rfl) e25 ?_
            refine WL.val (d := (some 48)) (v := r51) (h' := h_24) (by kernel_rfl) (by kernel_rfl) (by kernel_rfl) ?_
            replace hF := obind_some hF; obtain ⟨v52, e26, hF⟩ := hF
            replace hF := obind_some hF; obtain ⟨t52, c27, hF⟩ := hF
            have c27 := avStr_some c27
            subst c27
            refine WL.val (d := (some 52)) (v := strA t52) (h' := h_24) (by kernel_rfl) (by kernel_rfl) (Eq.trans (by kernel_rfl) (extract_tup (h := h_24) e26)) ?_
            replace hF := obind_some hF; obtain ⟨v53, e28, hF⟩ := hF
            replace hF := obind_some hF; obtain ⟨t53, c29, hF⟩ := hF
            have c29 := avInt_some c29
            subst c29
            refine WL.val (d := (some 53)) (v := .int .i64 t53) (h' := h_24) (by kernel_rfl) (by kernel_rfl) (Eq.trans (by kernel_rfl) (extract_tup (h := h_24) e28)) ?_
            refine WL.val (d := (some 10)) (v := strA t52) (h' := h_24) (by kernel_rfl) (by kernel_rfl) (by kernel_rfl) ?_
            refine WL.val (d := (some 11)) (v := .int .i64 t53) (h' := h_24) (by kernel_rfl) (by kernel_rfl) (by kernel_rfl) ?_
            refine WL.nil (by kernel_rfl) ?_
            refine Go.weaken (l' := [(0, strA t0), (1, .int .i64 t1), (2, t2), (10, strA t52), (11, .int .i64 t53)]) (Fr.sub_cons (by kernel_rfl) (Fr.sub_cons (by kernel_rfl) (Fr.sub_cons (by kernel_rfl) (Fr.sub_cons (by kernel_rfl) (Fr.sub_cons (by kernel_rfl) (Fr.sub_nil _)))))) ?_
            refine n23 ?_
            refine W.seqK (by kernel_rfl) (fun K30 n30 e30 r30 p30 => ?_)
            refine W.blockK (by kernel_rfl) (fun K31 n31 s31 o31 r31 p31 => ?_)
            refine W.seqK (by kernel_rfl) (fun K32 n32 e32 r32 p32 => ?_)
            refine W.region (by kernel_rfl) ?_
            refine WL.val (d := (some 55)) (v := .int .i64 t1) (h' := h_24) (by kernel_rfl) (by kernel_rfl) (by kernel_rfl) ?_
            replace hF := lett_some hF; obtain ⟨t56, e33, hF⟩ := hF
            refine WL.val (d := (some 56)) (v := .bool t56) (h' := h_24) (by kernel_rfl) (by kernel_rfl) (val_of AV.bool e33 (by kernel_rfl)) ?_
            refine WL.val (d := (some 57)) (v := .bool t56) (h' := h_24) (by kernel_rfl) (by kernel_rfl) (by kernel_rfl) ?_
            replace hF := lett_some hF; obtain ⟨j62, e35, hF⟩ := hF
            have J36 : ∀ (t62 : Bool) (h_34 : AHeap), j62 t62 h_34 = some (rR, hR) → WL Try.prog w0 m0 (Func.ntmps Try.f4) (Code.ops (Code.p1 (Code.p1 (Code.p1 (Code.p2 (Code.p2 (Code.p2 (Code.p2 (Code.p2 (Code.p2 (codeOf Try.f4))))))))))) 8 K32 [(0, strA t0), (1, .int .i64 t1), (2, t2), (10, strA t52), (11, .int .i64 t53), (62, .bool t62)] [] h_34 := by
              intro t62 h_34 hF
              rw [e35] at hF
              refine WL.val (d := (some 54)) (v := .bool t62) (h' := h_34) (by kernel_rfl) (by kernel_rfl) (by kernel_rfl) ?_
              refine WL.nil (by kernel_rfl) ?_
              refine Go.weaken (l' := [(0, strA t0), (1, .int .i64 t1), (2, t2), (10, strA t52), (11, .int .i64 t53), (54, .bool t62)]) (Fr.sub_cons (by kernel_rfl) (Fr.sub_cons (by kernel_rfl) (Fr.sub_cons (by kernel_rfl) (Fr.sub_cons (by kernel_rfl) (Fr.sub_cons (by kernel_rfl) (Fr.sub_cons (by kernel_rfl) (Fr.sub_nil _))))))) ?_
              refine n32 ?_
              replace hF := lett_some hF; obtain ⟨k37, e37, hF⟩ := hF
              have J37 : ∀  (h_38 : AHeap), k37 h_38 = some (rR, hR) → Go w0 m0 (Func.ntmps Try.f4) (K31 .normal) [(2, t2)] [] h_38 := by
                intro  h_38 hF
                rw [e37] at hF
                refine n31 ?_
                refine n30 ?_
                refine W.seqK (by kernel_rfl) (fun K39 n39 e39 r39 p39 => ?_)
                refine W.region (by kernel_rfl) ?_
                replace hF := callN_some hF; obtain ⟨r84, h_40, e41, hF⟩ := hF
                refine WL.call (hc.ok w0) (d := (some 84)) (by kernel_rfl) (by kernel_rfl) (by kernel_rfl) e41 ?_
                refine WL.val (d := (some 85)) (v := .agg ([.int .i64 0, .int .i64 0, .int .i64 0, .str 0 0] : List AV)) (h' := h_40) (by kernel_rfl) (by kernel_rfl) (by kernel_rfl) ?_
                replace hF := outK_some hF; obtain ⟨v86, h_42, e43, hF⟩ := hF
                refine WL.val (d := (some 86)) (v := v86) (h' := h_42) (by kernel_rfl) (by kernel_rfl) (Eq.trans (by kernel_rfl) e43) ?_
                refine WL.val (d := (some 12)) (v := r84) (h' := h_42) (by kernel_rfl) (by kernel_rfl) (by kernel_rfl) ?_
                refine WL.val (d := (some 13)) (v := v86) (h' := h_42) (by kernel_rfl) (by kernel_rfl) (by kernel_rfl) ?_
                refine WL.nil (by kernel_rfl) ?_
                refine Go.weaken (l' := [(2, t2), (12, r84), (13, v86)]) (Fr.sub_cons (by kernel_rfl) (Fr.sub_cons (by kernel_rfl) (Fr.sub_cons (by kernel_rfl) (Fr.sub_nil _)))) ?_
                refine n39 ?_
                refine W.seqK (by kernel_rfl) (fun K44 n44 e44 r44 p44 => ?_)
                refine W.seqK (by kernel_rfl) (fun K45 n45 e45 r45 p45 => ?_)
                refine W.region (by kernel_rfl) ?_
                refine WL.val (d := (some 87)) (v := t2) (h' := h_42) (by kernel_rfl) (by kernel_rfl) (by kernel_rfl) ?_
                replace hF := obind_some hF; obtain ⟨t88, e46, hF⟩ := hF
                refine WL.val (d := (some 88)) (v := .int .i64 t88) (h' := h_42) (by kernel_rfl) (by kernel_rfl) (Eq.trans (by kernel_rfl) (len_row (P := Try.prog) (h := h_42) (t := 47) (e' := 35) (by kernel_rfl) e46)) ?_
                refine WL.val (d := (some 89)) (v := .int .i64 0) (h' := h_42) (by kernel_rfl) (by kernel_rfl) (by kernel_rfl) ?_
                refine WL.nil (by kernel_rfl) ?_
                refine Go.weaken (l' := [(12, r84), (13, v86), (87, t2), (88, .int .i64 t88), (89, .int .i64 0)]) (Fr.sub_cons (by kernel_rfl) (Fr.sub_cons (by kernel_rfl) (Fr.sub_cons (by kernel_rfl) (Fr.sub_cons (by kernel_rfl) (Fr.sub_cons (by kernel_rfl) (Fr.sub_nil _)))))) ?_
                refine n45 ?_
                replace hF := lett_some hF; obtain ⟨k48, e48, hF⟩ := hF
                have J48 : ∀  (h_49 : AHeap), k48 h_49 = some (rR, hR) → Go w0 m0 (Func.ntmps Try.f4) (K44 .normal) [] [] h_49 := by
                  intro  h_49 hF
                  rw [e48] at hF
                  refine n44 ?_
                  refine W.seqK (by kernel_rfl) (fun K50 n50 e50 r50 p50 => ?_)
                  refine W.region (by kernel_rfl) ?_
                  refine WL.val (d := (some 6)) (v := .bool true) (h' := h_49) (by kernel_rfl) (by kernel_rfl) (by kernel_rfl) ?_
                  refine WL.nil (by kernel_rfl) ?_
                  refine Go.weaken (l' := [(6, .bool true)]) (Fr.sub_cons (by kernel_rfl) (Fr.sub_nil _)) ?_
                  refine n50 ?_
                  refine W.ret (by kernel_rfl) ?_
                  obtain ⟨hF, hF2⟩ := ret_inj hF; subst hF; subst hF2
                  exact leave_of (rs := [.tmp 6]) (vs := [.bool true]) (by kernel_rfl) (res_tmp (by kernel_rfl) res_nil) (by kernel_rfl)
                refine W.blockK (by kernel_rfl) (fun K47 n47 s47 o47 r47 p47 => ?_)
                refine W.loopK (by kernel_rfl) (fun I51 K51 b51 n51 e51 r51 p51 => ?_)
                have L51 : ∀ (m : Nat) (t89 : Int) (h_52 : AHeap), law19_SnapPieces_L0 call t2 r84 v86 t88 k48 m t89 h_52 = some (rR, hR) → Go w0 m0 (Func.ntmps Try.f4) I51 [(12, r84), (13, v86), (87, t2), (88, .int .i64 t88), (89, .int .i64 t89)] [] h_52 := by
                  intro m
                  induction m with
                  | zero => intro t89 h_52 hF; cases hF
                  | succ m ih51 =>
                    intro t89 h_52 hF
                    rw [law19_SnapPieces_L0_s] at hF; unfold law19_SnapPieces_L0b at hF
                    refine b51 ?_
                    refine W.seqK (by kernel_rfl) (fun K53 n53 e53 r53 p53 => ?_)
                    refine W.region (by kernel_rfl) ?_
                    replace hF := lett_some hF; obtain ⟨t90, e54, hF⟩ := hF
                    refine WL.val (d := (some 90)) (v := .bool t90) (h' := h_52) (by kernel_rfl) (by kernel_rfl) (val_of AV.bool e54 (by kernel_rfl)) ?_
                    refine WL.nil (by kernel_rfl) ?_
                    refine Go.weaken (l' := [(12, r84), (13, v86), (87, t2), (88, .int .i64 t88), (89, .int .i64 t89), (90, .bool t90)]) (Fr.sub_cons (by kernel_rfl) (Fr.sub_cons (by kernel_rfl) (Fr.sub_cons (by kernel_rfl) (Fr.sub_cons (by kernel_rfl) (Fr.sub_cons (by kernel_rfl) (Fr.sub_cons (by kernel_rfl) (Fr.sub_nil _))))))) ?_
                    refine n53 ?_
                    refine W.seqK (by kernel_rfl) (fun K55 n55 e55 r55 p55 => ?_)
                    cases t90 with
                    | true =>
                      replace hF := ifB_t hF
                      refine W.cond_true (by kernel_rfl) (by kernel_rfl) ?_
                      refine W.skip (by kernel_rfl) ?_
                      refine n55 ?_
                      refine W.seqK (by kernel_rfl) (fun K56 n56 e56 r56 p56 => ?_)
                      refine W.blockK (by kernel_rfl) (fun K57 n57 s57 o57 r57 p57 => ?_)
                      refine W.seqK (by kernel_rfl) (fun K58 n58 e58 r58 p58 => ?_)
                      refine W.region (by kernel_rfl) ?_
                      replace hF := obind_some hF; obtain ⟨t91, e59, hF⟩ := hF
                      refine WL.val (d := (some 91)) (v := t91) (h' := h_52) (by kernel_rfl) (by kernel_rfl) (Eq.trans (by kernel_rfl) (index_row (P := Try.prog) (h := h_52) (t := 47) (e' := 35) (k := .i64) (by kernel_rfl) (by kernel_rfl) (by kernel_rfl) e59)) ?_
                      replace hF := obind_some hF; obtain ⟨t92, e60, hF⟩ := hF
                      refine WL.val (d := (some 92)) (v := .agg t92) (h' := h_52) (by kernel_rfl) (by kernel_rfl) (Eq.trans (by kernel_rfl) (load_row (P := Try.prog) (h := h_52) (t := 35) (by kernel_rfl) (by kernel_rfl) e60)) ?_
                      replace hF := lett_some hF; obtain ⟨h_61, e62, hF⟩ := hF
                      refine WL.val (d := (some 15)) (v := (newP h_52)) (h' := h_61) (by kernel_rfl) (by kernel_rfl) (val_ofH e62 (by kernel_rfl)) ?_
                      replace hF := obind_some hF; obtain ⟨h_63, e64, hF⟩ := hF
                      refine WL.eff (h' := h_63) (by kernel_rfl) (by kernel_rfl) (Eq.trans (by kernel_rfl) (store_row (P := Try.prog) (h := h_61) (t := 35) (v := (.agg t92)) (by kernel_rfl) (by kernel_rfl) e64)) ?_
                      refine WL.nil (by kernel_rfl) ?_
                      refine Go.weaken (l' := [(12, r84), (13, v86), (15, (newP h_52)), (87, t2), (88, .int .i64 t88), (89, .int .i64 t89)]) (Fr.sub_cons (by kernel_rfl) (Fr.sub_cons (by kernel_rfl) (Fr.sub_cons (by kernel_rfl) (Fr.sub_cons (by kernel_rfl) (Fr.sub_cons (by kernel_rfl) (Fr.sub_cons (by kernel_rfl) (Fr.sub_nil _))))))) ?_
                      refine n58 ?_
                      refine W.seqK (by kernel_rfl) (fun K65 n65 e65 r65 p65 => ?_)
                      refine W.region (by kernel_rfl) ?_
                      refine WL.val (d := (some 94)) (v := r84) (h' := h_63) (by kernel_rfl) (by kernel_rfl) (by kernel_rfl) ?_
                      replace hF := obind_some hF; obtain ⟨t95, e66, hF⟩ := hF
                      refine WL.val (d := (some 95)) (v := .agg t95) (h' := h_63) (by kernel_rfl) (by kernel_rfl) (Eq.trans (by kernel_rfl) (load_row (P := Try.prog) (h := h_63) (t := 35) (by kernel_rfl) (by kernel_rfl) e66)) ?_
                      replace hF := callN_some hF; obtain ⟨r96, h_67, e68, hF⟩ := hF
                      refine WL.call (hc.ok w0) (d := (some 96)) (by kernel_rfl) (by kernel_rfl) (by kernel_rfl) e68 ?_
                      refine WL.val (d := (some 93)) (v := r96) (h' := h_67) (by kernel_rfl) (by kernel_rfl) (by kernel_rfl) ?_
                      replace hF := obind_some hF; obtain ⟨v97, e69, hF⟩ := hF
                      replace hF := obind_some hF; obtain ⟨t97, c70, hF⟩ := hF
                      have c70 := avInt_some c70
                      subst c70
                      refine WL.val (d := (some 97)) (v := .int .i64 t97) (h' := h_67) (by kernel_rfl) (by kernel_rfl) (Eq.trans (by kernel_rfl) (extract_tup (h := h_67) e69)) ?_
                      replace hF := obind_some hF; obtain ⟨v98, e71, hF⟩ := hF
                      replace hF := obind_some hF; obtain ⟨t98, c72, hF⟩ := hF
                      have c72 := avStr_some c72
                      subst c72
                      refine WL.val (d := (some 98)) (v := strA t98) (h' := h_67) (by kernel_rfl) (by kernel_rfl) (Eq.trans (by kernel_rfl) (extract_tup (h := h_67) e71)) ?_
                      replace hF := obind_some hF; obtain ⟨v99, e73, hF⟩ := hF
                      replace hF := obind_some hF; obtain ⟨t99, c74, hF⟩ := hF
                      have c74 := avBool_some c74
                      subst c74
                      refine WL.val (d := (some 99)) (v := .bool t99) (h' := h_67) (by kernel_rfl) (by kernel_rfl) (Eq.trans (by kernel_rfl) (extract_tup (h := h_67) e73)) ?_
                      refine WL.val (d := (some 16)) (v := .int .i64 t97) (h' := h_67) (by kernel_rfl) (by kernel_rfl) (by kernel_rfl) ?_
                      refine WL.val (d := (some 17)) (v := strA t98) (h' := h_67) (by kernel_rfl) (by kernel_rfl) (by kernel_rfl) ?_
                      refine WL.val (d := (some 18)) (v := .bool t99) (h' := h_67) (by kernel_rfl) (by kernel_rfl) (by kernel_rfl) ?_
                      refine WL.nil (by kernel_rfl) ?_
                      refine Go.weaken (l' := [(12, r84), (13, v86), (15, (newP h_52)), (16, .int .i64 t97), (17, strA t98), (18, .bool t99), (87, t2), (88, .int .i64 t88), (89, .int .i64 t89)]) (Fr.sub_cons (by kernel_rfl) (Fr.sub_cons (by kernel_rfl) (Fr.sub_cons (by kernel_rfl) (Fr.sub_cons (by kernel_rfl) (Fr.sub_cons (by kernel_rfl) (Fr.sub_cons (by kernel_rfl) (Fr.sub_cons (by kernel_rfl) (Fr.sub_cons (by kernel_rfl) (Fr.sub_cons (by kernel_rfl) (Fr.sub_nil _)))))))))) ?_
                      refine n65 ?_
                      refine W.seqK (by kernel_rfl) (fun K75 n75 e75 r75 p75 => ?_)
                      refine W.region (by kernel_rfl) ?_
                      refine WL.val (d := (some 101)) (v := v86) (h' := h_67) (by kernel_rfl) (by kernel_rfl) (by kernel_rfl) ?_
                      replace hF := obind_some hF; obtain ⟨t102, e76, hF⟩ := hF
                      refine WL.val (d := (some 102)) (v := .agg t102) (h' := h_67) (by kernel_rfl) (by kernel_rfl) (Eq.trans (by kernel_rfl) (load_row (P := Try.prog) (h := h_67) (t := 35) (by kernel_rfl) (by kernel_rfl) e76)) ?_
                      replace hF := callN_some hF; obtain ⟨r103, h_77, e78, hF⟩ := hF
                      refine WL.call (hc.ok w0) (d := (some 103)) (by kernel_rfl) (by kernel_rfl) (by kernel_rfl) e78 ?_
                      refine WL.val (d := (some 100)) (v := r103) (h' := h_77) (by kernel_rfl) (by kernel_rfl) (by kernel_rfl) ?_
                      replace hF := obind_some hF; obtain ⟨v104, e79, hF⟩ := hF
                      replace hF := obind_some hF; obtain ⟨t104, c80, hF⟩ := hF
                      have c80 := avInt_some c80
                      subst c80
                      refine WL.val (d := (some 104)) (v := .int .i64 t104) (h' := h_77) (by kernel_rfl) (by kernel_rfl) (Eq.trans (by kernel_rfl) (extract_tup (h := h_77) e79)) ?_
                      replace hF := obind_some hF; obtain ⟨v105, e81, hF⟩ := hF
                      replace hF := obind_some hF; obtain ⟨t105, c82, hF⟩ := hF
                      have c82 := avStr_some c82
                      subst c82
                      refine WL.val (d := (some 105)) (v := strA t105) (h' := h_77) (by kernel_rfl) (by kernel_rfl) (Eq.trans (by kernel_rfl) (extract_tup (h := h_77) e81)) ?_
                      replace hF := obind_some hF; obtain ⟨v106, e83, hF⟩ := hF
                      replace hF := obind_some hF; obtain ⟨t106, c84, hF⟩ := hF
                      have c84 := avBool_some c84
                      subst c84
                      refine WL.val (d := (some 106)) (v := .bool t106) (h' := h_77) (by kernel_rfl) (by kernel_rfl) (Eq.trans (by kernel_rfl) (extract_tup (h := h_77) e83)) ?_
                      refine WL.val (d := (some 19)) (v := .int .i64 t104) (h' := h_77) (by kernel_rfl) (by kernel_rfl) (by kernel_rfl) ?_
                      refine WL.val (d := (some 20)) (v := strA t105) (h' := h_77) (by kernel_rfl) (by kernel_rfl) (by kernel_rfl) ?_
                      refine WL.val (d := (some 21)) (v := .bool t106) (h' := h_77) (by kernel_rfl) (by kernel_rfl) (by kernel_rfl) ?_
                      refine WL.nil (by kernel_rfl) ?_
                      refine Go.weaken (l' := [(12, r84), (13, v86), (16, .int .i64 t97), (17, strA t98), (18, .bool t99), (19, .int .i64 t104), (20, strA t105), (21, .bool t106), (87, t2), (88, .int .i64 t88), (89, .int .i64 t89)]) (Fr.sub_cons (by kernel_rfl) (Fr.sub_cons (by kernel_rfl) (Fr.sub_cons (by kernel_rfl) (Fr.sub_cons (by kernel_rfl) (Fr.sub_cons (by kernel_rfl) (Fr.sub_cons (by kernel_rfl) (Fr.sub_cons (by kernel_rfl) (Fr.sub_cons (by kernel_rfl) (Fr.sub_cons (by kernel_rfl) (Fr.sub_cons (by kernel_rfl) (Fr.sub_cons (by kernel_rfl) (Fr.sub_nil _)))))))))))) ?_
                      refine n75 ?_
                      refine W.seqK (by kernel_rfl) (fun K85 n85 e85 r85 p85 => ?_)
                      refine W.region (by kernel_rfl) ?_
                      refine WL.val (d := (some 107)) (v := .int .i64 t97) (h' := h_77) (by kernel_rfl) (by kernel_rfl) (by kernel_rfl) ?_
                      refine WL.val (d := (some 108)) (v := .int .i64 t104) (h' := h_77) (by kernel_rfl) (by kernel_rfl) (by kernel_rfl) ?_
                      replace hF := lett_some hF; obtain ⟨t109, e86, hF⟩ := hF
                      refine WL.val (d := (some 109)) (v := .bool t109) (h' := h_77) (by kernel_rfl) (by kernel_rfl) (val_of AV.bool e86 (by kernel_rfl)) ?_
                      refine WL.val (d := (some 110)) (v := .bool t109) (h' := h_77) (by kernel_rfl) (by kernel_rfl) (by kernel_rfl) ?_
                      replace hF := lett_some hF; obtain ⟨j114, e88, hF⟩ := hF
                      have J89 : ∀ (t114 : Bool) (h_87 : AHeap), j114 t114 h_87 = some (rR, hR) → WL Try.prog w0 m0 (Func.ntmps Try.f4) (Code.ops (Code.p1 (Code.p2 (Code.p2 (Code.p2 (Code.p1 (Code.p1 (Code.p2 (Code.p2 (Code.p1 (Code.p1 (Code.p2 (Code.p1 (Code.p2 (Code.p2 (Code.p2 (Code.p2 (Code.p2 (Code.p2 (Code.p2 (Code.p2 (codeOf Try.f4)))))))))))))))))))))) 8 K85 [(12, r84), (13, v86), (18, .bool t99), (21, .bool t106), (87, t2), (88, .int .i64 t88), (89, .int .i64 t89), (114, .bool t114)] [] h_87 := by
                        intro t114 h_87 hF
                        rw [e88] at hF
                        refine WL.val (d := (some 115)) (v := .bool t114) (h' := h_87) (by kernel_rfl) (by kernel_rfl) (by kernel_rfl) ?_
                        replace hF := lett_some hF; obtain ⟨j119, e91, hF⟩ := hF
                        have J92 : ∀ (t119 : Bool) (h_90 : AHeap), j119 t119 h_90 = some (rR, hR) → WL Try.prog w0 m0 (Func.ntmps Try.f4) (Code.ops (Code.p1 (Code.p2 (Code.p2 (Code.p2 (Code.p1 (Code.p1 (Code.p2 (Code.p2 (Code.p1 (Code.p1 (Code.p2 (Code.p1 (Code.p2 (Code.p2 (Code.p2 (Code.p2 (Code.p2 (Code.p2 (Code.p2 (Code.p2 (codeOf Try.f4)))))))))))))))))))))) 13 K85 [(12, r84), (13, v86), (87, t2), (88, .int .i64 t88), (89, .int .i64 t89), (119, .bool t119)] [] h_90 := by
                          intro t119 h_90 hF
                          rw [e91] at hF
                          refine WL.nil (by kernel_rfl) ?_
                          refine Go.weaken (l' := [(12, r84), (13, v86), (87, t2), (88, .int .i64 t88), (89, .int .i64 t89), (119, .bool t119)]) (Fr.sub_cons (by kernel_rfl) (Fr.sub_cons (by kernel_rfl) (Fr.sub_cons (by kernel_rfl) (Fr.sub_cons (by kernel_rfl) (Fr.sub_cons (by kernel_rfl) (Fr.sub_cons (by kernel_rfl) (Fr.sub_nil _))))))) ?_
                          refine n85 ?_
                          cases t119 with
                          | true =>
                            replace hF := ifB_t hF
                            refine W.cond_true (by kernel_rfl) (by kernel_rfl) ?_
                            refine W.seqK (by kernel_rfl) (fun K93 n93 e93 r93 p93 => ?_)
                            refine W.region (by kernel_rfl) ?_
                            refine WL.val (d := (some 6)) (v := .bool false) (h' := h_90) (by kernel_rfl) (by kernel_rfl) (by kernel_rfl) ?_
                            refine WL.nil (by kernel_rfl) ?_
                            refine Go.weaken (l' := [(6, .bool false)]) (Fr.sub_cons (by kernel_rfl) (Fr.sub_nil _)) ?_
                            refine n93 ?_
                            refine W.ret (by kernel_rfl) ?_
                            refine r57 ?_
                            refine r56 ?_
                            refine r51 ?_
                            refine r47 ?_
                            refine r44 ?_
                            obtain ⟨hF, hF2⟩ := ret_inj hF; subst hF; subst hF2
                            exact leave_of (rs := [.tmp 6]) (vs := [.bool false]) (by kernel_rfl) (res_tmp (by kernel_rfl) res_nil) (by kernel_rfl)
                          | false =>
                            replace hF := ifB_f hF
                            refine W.cond_false (by kernel_rfl) (by kernel_rfl) ?_
                            refine W.skip (by kernel_rfl) ?_
                            refine n57 ?_
                            refine n56 ?_
                            refine W.region (by kernel_rfl) ?_
                            replace hF := lett_some hF; obtain ⟨t120, e94, hF⟩ := hF
                            refine WL.val (d := (some 120)) (v := .int .i64 t120) (h' := h_90) (by kernel_rfl) (by kernel_rfl) (val_of (AV.int .i64) e94 (by kernel_rfl)) ?_
                            refine WL.val (d := (some 89)) (v := .int .i64 t120) (h' := h_90) (by kernel_rfl) (by kernel_rfl) (by kernel_rfl) ?_
                            refine WL.nil (by kernel_rfl) ?_
                            refine Go.weaken (l' := [(12, r84), (13, v86), (87, t2), (88, .int .i64 t88), (89, .int .i64 t120)]) (Fr.sub_cons (by kernel_rfl) (Fr.sub_cons (by kernel_rfl) (Fr.sub_cons (by kernel_rfl) (Fr.sub_cons (by kernel_rfl) (Fr.sub_cons (by kernel_rfl) (Fr.sub_nil _)))))) ?_
                            refine n51 ?_
                            exact Go.weaken (Fr.sub_cons (by kernel_rfl) (Fr.sub_cons (by kernel_rfl) (Fr.sub_cons (by kernel_rfl) (Fr.sub_cons (by kernel_rfl) (Fr.sub_cons (by kernel_rfl) (Fr.sub_nil _)))))) (ih51 _ _ hF)
                        cases t114 with
                        | true =>
                          replace hF := ifB_t hF
                          refine WL.not (d := (some 116)) (by kernel_rfl) (by kernel_rfl) ?_
                          refine WL.not (d := (some 117)) (by kernel_rfl) (by kernel_rfl) ?_
                          refine WL.not (d := (some 118)) (by kernel_rfl) (by kernel_rfl) ?_
                          refine WL.val (d := (some 119)) (v := .bool true) (h' := h_87) (by kernel_rfl) (by kernel_rfl) (by kernel_rfl) ?_
                          exact WL.weaken (Fr.sub_cons (by kernel_rfl) (Fr.sub_cons (by kernel_rfl) (Fr.sub_cons (by kernel_rfl) (Fr.sub_cons (by kernel_rfl) (Fr.sub_cons (by kernel_rfl) (Fr.sub_cons (by kernel_rfl) (Fr.sub_nil _))))))) (J92 _ _ hF)
                        | false =>
                          replace hF := ifB_f hF
                          refine WL.val (d := (some 116)) (v := .bool t99) (h' := h_87) (by kernel_rfl) (by kernel_rfl) (by kernel_rfl) ?_
                          refine WL.val (d := (some 117)) (v := .bool t106) (h' := h_87) (by kernel_rfl) (by kernel_rfl) (by kernel_rfl) ?_
                          replace hF := lett_some hF; obtain ⟨t118, e95, hF⟩ := hF
                          refine WL.val (d := (some 118)) (v := .bool t118) (h' := h_87) (by kernel_rfl) (by kernel_rfl) (val_of AV.bool e95 (by kernel_rfl)) ?_
                          refine WL.val (d := (some 119)) (v := .bool t118) (h' := h_87) (by kernel_rfl) (by kernel_rfl) (by kernel_rfl) ?_
                          exact WL.weaken (Fr.sub_cons (by kernel_rfl) (Fr.sub_cons (by kernel_rfl) (Fr.sub_cons (by kernel_rfl) (Fr.sub_cons (by kernel_rfl) (Fr.sub_cons (by kernel_rfl) (Fr.sub_cons (by kernel_rfl) (Fr.sub_nil _))))))) (J92 _ _ hF)
                      cases t109 with
                      | true =>
                        replace hF := ifB_t hF
                        refine WL.not (d := (some 111)) (by kernel_rfl) (by kernel_rfl) ?_
                        refine WL.not (d := (some 112)) (by kernel_rfl) (by kernel_rfl) ?_
                        refine WL.not (d := (some 113)) (by kernel_rfl) (by kernel_rfl) ?_
                        refine WL.val (d := (some 114)) (v := .bool true) (h' := h_77) (by kernel_rfl) (by kernel_rfl) (by kernel_rfl) ?_
                        exact WL.weaken (Fr.sub_cons (by kernel_rfl) (Fr.sub_cons (by kernel_rfl) (Fr.sub_cons (by kernel_rfl) (Fr.sub_cons (by kernel_rfl) (Fr.sub_cons (by kernel_rfl) (Fr.sub_cons (by kernel_rfl) (Fr.sub_cons (by kernel_rfl) (Fr.sub_cons (by kernel_rfl) (Fr.sub_nil _))))))))) (J89 _ _ hF)
                      | false =>
                        replace hF := ifB_f hF
                        refine WL.val (d := (some 111)) (v := strA t98) (h' := h_77) (by kernel_rfl) (by kernel_rfl) (by kernel_rfl) ?_
                        refine WL.val (d := (some 112)) (v := strA t105) (h' := h_77) (by kernel_rfl) (by kernel_rfl) (by kernel_rfl) ?_
                        replace hF := lett_some hF; obtain ⟨t113, e96, hF⟩ := hF
                        refine WL.val (d := (some 113)) (v := .bool t113) (h' := h_77) (by kernel_rfl) (by kernel_rfl) (val_of AV.bool e96 (by kernel_rfl)) ?_
                        refine WL.val (d := (some 114)) (v := .bool t113) (h' := h_77) (by kernel_rfl) (by kernel_rfl) (by kernel_rfl) ?_
                        exact WL.weaken (Fr.sub_cons (by kernel_rfl) (Fr.sub_cons (by kernel_rfl) (Fr.sub_cons (by kernel_rfl) (Fr.sub_cons (by kernel_rfl) (Fr.sub_cons (by kernel_rfl) (Fr.sub_cons (by kernel_rfl) (Fr.sub_cons (by kernel_rfl) (Fr.sub_cons (by kernel_rfl) (Fr.sub_nil _))))))))) (J89 _ _ hF)
                    | false =>
                      replace hF := ifB_f hF
                      refine W.cond_false (by kernel_rfl) (by kernel_rfl) ?_
                      refine W.exit (by kernel_rfl) ?_
                      refine e55 ?_
                      refine e51 ?_
                      refine s47 (by kernel_rfl) ?_
                      exact Go.weaken (Fr.sub_nil _) (J48 _ hF)
                exact Go.weaken (Fr.sub_cons (by kernel_rfl) (Fr.sub_cons (by kernel_rfl) (Fr.sub_cons (by kernel_rfl) (Fr.sub_cons (by kernel_rfl) (Fr.sub_cons (by kernel_rfl) (Fr.sub_nil _)))))) (L51 _ _ _ hF)
              cases t62 with
              | true =>
                replace hF := ifB_t hF
                refine W.cond_true (by kernel_rfl) (by kernel_rfl) ?_
                refine W.seqK (by kernel_rfl) (fun K97 n97 e97 r97 p97 => ?_)
                refine W.region (by kernel_rfl) ?_
                refine WL.val (d := (some 63)) (v := strA t52) (h' := h_34) (by kernel_rfl) (by kernel_rfl) (by kernel_rfl) ?_
                replace hF := lett_some hF; obtain ⟨t64, e98, hF⟩ := hF
                refine WL.val (d := (some 64)) (v := .bool t64) (h' := h_34) (by kernel_rfl) (by kernel_rfl) (val_of AV.bool e98 (by kernel_rfl)) ?_
                refine WL.val (d := (some 65)) (v := .bool t64) (h' := h_34) (by kernel_rfl) (by kernel_rfl) (by kernel_rfl) ?_
                replace hF := lett_some hF; obtain ⟨j68, e100, hF⟩ := hF
                have J101 : ∀ (t68 : Bool) (h_99 : AHeap), j68 t68 h_99 = some (rR, hR) → WL Try.prog w0 m0 (Func.ntmps Try.f4) (Code.ops (Code.p1 (Code.p1 (Code.p2 (Code.p1 (Code.p1 (Code.p2 (Code.p2 (Code.p2 (Code.p2 (Code.p2 (Code.p2 (codeOf Try.f4))))))))))))) 6 K97 [(2, t2), (68, .bool t68)] [] h_99 := by
                  intro t68 h_99 hF
                  rw [e100] at hF
                  refine WL.nil (by kernel_rfl) ?_
                  refine Go.weaken (l' := [(2, t2), (68, .bool t68)]) (Fr.sub_cons (by kernel_rfl) (Fr.sub_cons (by kernel_rfl) (Fr.sub_nil _))) ?_
                  refine n97 ?_
                  cases t68 with
                  | true =>
                    replace hF := ifB_t hF
                    refine W.cond_true (by kernel_rfl) (by kernel_rfl) ?_
                    refine W.seqK (by kernel_rfl) (fun K102 n102 e102 r102 p102 => ?_)
                    refine W.region (by kernel_rfl) ?_
                    refine WL.val (d := (some 6)) (v := .bool false) (h' := h_99) (by kernel_rfl) (by kernel_rfl) (by kernel_rfl) ?_
                    refine WL.nil (by kernel_rfl) ?_
                    refine Go.weaken (l' := [(6, .bool false)]) (Fr.sub_cons (by kernel_rfl) (Fr.sub_nil _)) ?_
                    refine n102 ?_
                    refine W.ret (by kernel_rfl) ?_
                    refine r31 ?_
                    refine r30 ?_
                    obtain ⟨hF, hF2⟩ := ret_inj hF; subst hF; subst hF2
                    exact leave_of (rs := [.tmp 6]) (vs := [.bool false]) (by kernel_rfl) (res_tmp (by kernel_rfl) res_nil) (by kernel_rfl)
                  | false =>
                    replace hF := ifB_f hF
                    refine W.cond_false (by kernel_rfl) (by kernel_rfl) ?_
                    refine W.skip (by kernel_rfl) ?_
                    exact Go.weaken (Fr.sub_cons (by kernel_rfl) (Fr.sub_nil _)) (J37 _ hF)
                cases t64 with
                | true =>
                  replace hF := ifB_t hF
                  refine WL.not (d := (some 66)) (by kernel_rfl) (by kernel_rfl) ?_
                  refine WL.not (d := (some 67)) (by kernel_rfl) (by kernel_rfl) ?_
                  refine WL.val (d := (some 68)) (v := .bool true) (h' := h_34) (by kernel_rfl) (by kernel_rfl) (by kernel_rfl) ?_
                  exact WL.weaken (Fr.sub_cons (by kernel_rfl) (Fr.sub_cons (by kernel_rfl) (Fr.sub_nil _))) (J101 _ _ hF)
                | false =>
                  replace hF := ifB_f hF
                  refine WL.val (d := (some 66)) (v := .int .i64 t53) (h' := h_34) (by kernel_rfl) (by kernel_rfl) (by kernel_rfl) ?_
                  replace hF := lett_some hF; obtain ⟨t67, e103, hF⟩ := hF
                  refine WL.val (d := (some 67)) (v := .bool t67) (h' := h_34) (by kernel_rfl) (by kernel_rfl) (val_of AV.bool e103 (by kernel_rfl)) ?_
                  refine WL.val (d := (some 68)) (v := .bool t67) (h' := h_34) (by kernel_rfl) (by kernel_rfl) (by kernel_rfl) ?_
                  exact WL.weaken (Fr.sub_cons (by kernel_rfl) (Fr.sub_cons (by kernel_rfl) (Fr.sub_nil _))) (J101 _ _ hF)
              | false =>
                replace hF := ifB_f hF
                refine W.cond_false (by kernel_rfl) (by kernel_rfl) ?_
                refine W.seqK (by kernel_rfl) (fun K104 n104 e104 r104 p104 => ?_)
                refine W.region (by kernel_rfl) ?_
                refine WL.val (d := (some 70)) (v := .int .i64 t53) (h' := h_34) (by kernel_rfl) (by kernel_rfl) (by kernel_rfl) ?_
                replace hF := lett_some hF; obtain ⟨t71, e105, hF⟩ := hF
                refine WL.val (d := (some 71)) (v := .bool t71) (h' := h_34) (by kernel_rfl) (by kernel_rfl) (val_of AV.bool e105 (by kernel_rfl)) ?_
                refine WL.val (d := (some 72)) (v := .bool t71) (h' := h_34) (by kernel_rfl) (by kernel_rfl) (by kernel_rfl) ?_
                replace hF := lett_some hF; obtain ⟨j83, e107, hF⟩ := hF
                have J108 : ∀ (t83 : Bool) (h_106 : AHeap), j83 t83 h_106 = some (rR, hR) → WL Try.prog w0 m0 (Func.ntmps Try.f4) (Code.ops (Code.p1 (Code.p2 (Code.p2 (Code.p1 (Code.p1 (Code.p2 (Code.p2 (Code.p2 (Code.p2 (Code.p2 (Code.p2 (codeOf Try.f4))))))))))))) 14 K104 [(2, t2), (83, .bool t83)] [] h_106 := by
                  intro t83 h_106 hF
                  rw [e107] at hF
                  refine WL.val (d := (some 69)) (v := .bool t83) (h' := h_106) (by kernel_rfl) (by kernel_rfl) (by kernel_rfl) ?_
                  refine WL.nil (by kernel_rfl) ?_
                  refine Go.weaken (l' := [(2, t2), (69, .bool t83)]) (Fr.sub_cons (by kernel_rfl) (Fr.sub_cons (by kernel_rfl) (Fr.sub_nil _))) ?_
                  refine n104 ?_
                  cases t83 with
                  | true =>
                    replace hF := ifB_t hF
                    refine W.cond_true (by kernel_rfl) (by kernel_rfl) ?_
                    refine W.seqK (by kernel_rfl) (fun K109 n109 e109 r109 p109 => ?_)
                    refine W.region (by kernel_rfl) ?_
                    refine WL.val (d := (some 6)) (v := .bool false) (h' := h_106) (by kernel_rfl) (by kernel_rfl) (by kernel_rfl) ?_
                    refine WL.nil (by kernel_rfl) ?_
                    refine Go.weaken (l' := [(6, .bool false)]) (Fr.sub_cons (by kernel_rfl) (Fr.sub_nil _)) ?_
                    refine n109 ?_
                    refine W.ret (by kernel_rfl) ?_
                    refine r31 ?_
                    refine r30 ?_
                    obtain ⟨hF, hF2⟩ := ret_inj hF; subst hF; subst hF2
                    exact leave_of (rs := [.tmp 6]) (vs := [.bool false]) (by kernel_rfl) (res_tmp (by kernel_rfl) res_nil) (by kernel_rfl)
                  | false =>
                    replace hF := ifB_f hF
                    refine W.cond_false (by kernel_rfl) (by kernel_rfl) ?_
                    refine W.skip (by kernel_rfl) ?_
                    exact Go.weaken (Fr.sub_cons (by kernel_rfl) (Fr.sub_nil _)) (J37 _ hF)
                cases t71 with
                | true =>
                  replace hF := ifB_t hF
                  refine WL.not (d := (some 73)) (by kernel_rfl) (by kernel_rfl) ?_
                  refine WL.not (d := (some 74)) (by kernel_rfl) (by kernel_rfl) ?_
                  refine WL.not (d := (some 75)) (by kernel_rfl) (by kernel_rfl) ?_
                  refine WL.not (d := (some 76)) (by kernel_rfl) (by kernel_rfl) ?_
                  refine WL.not (d := (some 77)) (by kernel_rfl) (by kernel_rfl) ?_
                  refine WL.not (d := (some 78)) (by kernel_rfl) (by kernel_rfl) ?_
                  refine WL.not (d := (some 79)) (by kernel_rfl) (by kernel_rfl) ?_
                  refine WL.not (d := (some 80)) (by kernel_rfl) (by kernel_rfl) ?_
                  refine WL.not (d := (some 81)) (by kernel_rfl) (by kernel_rfl) ?_
                  refine WL.not (d := (some 82)) (by kernel_rfl) (by kernel_rfl) ?_
                  refine WL.val (d := (some 83)) (v := .bool true) (h' := h_34) (by kernel_rfl) (by kernel_rfl) (by kernel_rfl) ?_
                  exact WL.weaken (Fr.sub_cons (by kernel_rfl) (Fr.sub_cons (by kernel_rfl) (Fr.sub_nil _))) (J108 _ _ hF)
                | false =>
                  replace hF := ifB_f hF
                  refine WL.val (d := (some 73)) (v := strA t52) (h' := h_34) (by kernel_rfl) (by kernel_rfl) (by kernel_rfl) ?_
                  refine WL.val (d := (some 74)) (v := strA t0) (h' := h_34) (by kernel_rfl) (by kernel_rfl) (by kernel_rfl) ?_
                  refine WL.val (d := (some 75)) (v := .int .i64 t1) (h' := h_34) (by kernel_rfl) (by kernel_rfl) (by kernel_rfl) ?_
                  refine WL.val (d := (some 76)) (v := .int .i64 t1) (h' := h_34) (by kernel_rfl) (by kernel_rfl) (by kernel_rfl) ?_
                  replace hF := lett_some hF; obtain ⟨t77, e110, hF⟩ := hF
                  refine WL.val (d := (some 77)) (v := .int .i64 t77) (h' := h_34) (by kernel_rfl) (by kernel_rfl) (val_of (AV.int .i64) e110 (by kernel_rfl)) ?_
                  refine WL.val (d := (some 78)) (v := strA t0) (h' := h_34) (by kernel_rfl) (by kernel_rfl) (by kernel_rfl) ?_
                  refine WL.val (d := (some 79)) (v := .int .i64 (lenS t0)) (h' := h_34) (by kernel_rfl) (by kernel_rfl) (by kernel_rfl) ?_
                  replace hF := lett_some hF; obtain ⟨t80, e111, hF⟩ := hF
                  refine WL.val (d := (some 80)) (v := .int .i64 t80) (h' := h_34) (by kernel_rfl) (by kernel_rfl) (val_of (AV.int .i64) e111 (by kernel_rfl)) ?_
                  replace hF := obind_some hF; obtain ⟨t81, e112, hF⟩ := hF
                  refine WL.val (d := (some 81)) (v := strA t81) (h' := h_34) (by kernel_rfl) (by kernel_rfl) (Eq.trans (by kernel_rfl) (slice_str (P := Try.prog) (h := h_34) (t := 9) (A := (some (.int .i64 t1))) (B := (some (.int .i64 t80))) (by kernel_rfl) (.inl ⟨_, rfl⟩) (.inl ⟨_, rfl⟩) e112)) ?_
                  replace hF := lett_some hF; obtain ⟨t82, e113, hF⟩ := hF
                  refine WL.val (d := (some 82)) (v := .bool t82) (h' := h_34) (by kernel_rfl) (by kernel_rfl) (val_of AV.bool e113 (by kernel_rfl)) ?_
                  refine WL.val (d := (some 83)) (v := .bool t82) (h' := h_34) (by kernel_rfl) (by kernel_rfl) (by kernel_rfl) ?_
                  exact WL.weaken (Fr.sub_cons (by kernel_rfl) (Fr.sub_cons (by kernel_rfl) (Fr.sub_nil _))) (J108 _ _ hF)
            cases t56 with
            | true =>
              replace hF := ifB_t hF
              refine WL.not (d := (some 58)) (by kernel_rfl) (by kernel_rfl) ?_
              refine WL.not (d := (some 59)) (by kernel_rfl) (by kernel_rfl) ?_
              refine WL.not (d := (some 60)) (by kernel_rfl) (by kernel_rfl) ?_
              refine WL.not (d := (some 61)) (by kernel_rfl) (by kernel_rfl) ?_
              refine WL.val (d := (some 62)) (v := .bool true) (h' := h_24) (by kernel_rfl) (by kernel_rfl) (by kernel_rfl) ?_
              exact WL.weaken (Fr.sub_cons (by kernel_rfl) (Fr.sub_cons (by kernel_rfl) (Fr.sub_cons (by kernel_rfl) (Fr.sub_cons (by kernel_rfl) (Fr.sub_cons (by kernel_rfl) (Fr.sub_cons (by kernel_rfl) (Fr.sub_nil _))))))) (J36 _ _ hF)
            | false =>
              replace hF := ifB_f hF
              refine WL.val (d := (some 58)) (v := .int .i64 t1) (h' := h_24) (by kernel_rfl) (by kernel_rfl) (by kernel_rfl) ?_
              refine WL.val (d := (some 59)) (v := strA t0) (h' := h_24) (by kernel_rfl) (by kernel_rfl) (by kernel_rfl) ?_
              refine WL.val (d := (some 60)) (v := .int .i64 (lenS t0)) (h' := h_24) (by kernel_rfl) (by kernel_rfl) (by kernel_rfl) ?_
              replace hF := lett_some hF; obtain ⟨t61, e114, hF⟩ := hF
              refine WL.val (d := (some 61)) (v := .bool t61) (h' := h_24) (by kernel_rfl) (by kernel_rfl) (val_of AV.bool e114 (by kernel_rfl)) ?_
              refine WL.val (d := (some 62)) (v := .bool t61) (h' := h_24) (by kernel_rfl) (by kernel_rfl) (by kernel_rfl) ?_
              exact WL.weaken (Fr.sub_cons (by kernel_rfl) (Fr.sub_cons (by kernel_rfl) (Fr.sub_cons (by kernel_rfl) (Fr.sub_cons (by kernel_rfl) (Fr.sub_cons (by kernel_rfl) (Fr.sub_cons (by kernel_rfl) (Fr.sub_nil _))))))) (J36 _ _ hF)
        cases t42 with
        | true =>
          replace hF := ifB_t hF
          refine WL.not (d := (some 44)) (by kernel_rfl) (by kernel_rfl) ?_
          refine WL.not (d := (some 45)) (by kernel_rfl) (by kernel_rfl) ?_
          refine WL.not (d := (some 46)) (by kernel_rfl) (by kernel_rfl) ?_
          refine WL.val (d := (some 47)) (v := .bool true) (h' := h_15) (by kernel_rfl) (by kernel_rfl) (by kernel_rfl) ?_
          exact WL.weaken (Fr.sub_cons (by kernel_rfl) (Fr.sub_cons (by kernel_rfl) (Fr.sub_cons (by kernel_rfl) (Fr.sub_cons (by kernel_rfl) (Fr.sub_nil _))))) (J21 _ _ hF)
        | false =>
          replace hF := ifB_f hF
          refine WL.val (d := (some 44)) (v := t2) (h' := h_15) (by kernel_rfl) (by kernel_rfl) (by kernel_rfl) ?_
          replace hF := obind_some hF; obtain ⟨t45, e115, hF⟩ := hF
          refine WL.val (d := (some 45)) (v := .int .i64 t45) (h' := h_15) (by kernel_rfl) (by kernel_rfl) (Eq.trans (by kernel_rfl) (len_row (P := Try.prog) (h := h_15) (t := 47) (e' := 35) (by kernel_rfl) e115)) ?_
          replace hF := lett_some hF; obtain ⟨t46, e116, hF⟩ := hF
          refine WL.val (d := (some 46)) (v := .bool t46) (h' := h_15) (by kernel_rfl) (by kernel_rfl) (val_of AV.bool e116 (by kernel_rfl)) ?_
          refine WL.val (d := (some 47)) (v := .bool t46) (h' := h_15) (by kernel_rfl) (by kernel_rfl) (by kernel_rfl) ?_
          exact WL.weaken (Fr.sub_cons (by kernel_rfl) (Fr.sub_cons (by kernel_rfl) (Fr.sub_cons (by kernel_rfl) (Fr.sub_cons (by kernel_rfl) (Fr.sub_nil _))))) (J21 _ _ hF)
      refine W.blockK (by kernel_rfl) (fun K13 n13 s13 o13 r13 p13 => ?_)
      refine W.loopK (by kernel_rfl) (fun I117 K117 b117 n117 e117 r117 p117 => ?_)
      have L117 : ∀ (m : Nat) (t7_118 : Int) (t28 : Int) (h_119 : AHeap), law19_SnapPieces_L1 t2 t27 k14 m t7_118 t28 h_119 = some (rR, hR) → Go w0 m0 (Func.ntmps Try.f4) I117 [(0, strA t0), (1, .int .i64 t1), (2, t2), (7, .int .i64 t7_118), (26, t2), (27, .int .i64 t27), (28, .int .i64 t28)] [] h_119 := by
        intro m
        induction m with
        | zero => intro t7_118 t28 h_119 hF; cases hF
        | succ m ih117 =>
          intro t7_118 t28 h_119 hF
          rw [law19_SnapPieces_L1_s] at hF; unfold law19_SnapPieces_L1b at hF
          refine b117 ?_
          refine W.seqK (by kernel_rfl) (fun K120 n120 e120 r120 p120 => ?_)
          refine W.region (by kernel_rfl) ?_
          replace hF := lett_some hF; obtain ⟨t29, e121, hF⟩ := hF
          refine WL.val (d := (some 29)) (v := .bool t29) (h' := h_119) (by kernel_rfl) (by kernel_rfl) (val_of AV.bool e121 (by kernel_rfl)) ?_
          refine WL.nil (by kernel_rfl) ?_
          refine Go.weaken (l' := [(0, strA t0), (1, .int .i64 t1), (2, t2), (7, .int .i64 t7_118), (26, t2), (27, .int .i64 t27), (28, .int .i64 t28), (29, .bool t29)]) (Fr.sub_cons (by kernel_rfl) (Fr.sub_cons (by kernel_rfl) (Fr.sub_cons (by kernel_rfl) (Fr.sub_cons (by kernel_rfl) (Fr.sub_cons (by kernel_rfl) (Fr.sub_cons (by kernel_rfl) (Fr.sub_cons (by kernel_rfl) (Fr.sub_cons (by kernel_rfl) (Fr.sub_nil _))))))))) ?_
          refine n120 ?_
          refine W.seqK (by kernel_rfl) (fun K122 n122 e122 r122 p122 => ?_)
          cases t29 with
          | true =>
            replace hF := ifB_t hF
            refine W.cond_true (by kernel_rfl) (by kernel_rfl) ?_
            refine W.skip (by kernel_rfl) ?_
            refine n122 ?_
            refine W.seqK (by kernel_rfl) (fun K123 n123 e123 r123 p123 => ?_)
            refine W.blockK (by kernel_rfl) (fun K124 n124 s124 o124 r124 p124 => ?_)
            refine W.seqK (by kernel_rfl) (fun K125 n125 e125 r125 p125 => ?_)
            refine W.region (by kernel_rfl) ?_
            replace hF := obind_some hF; obtain ⟨t30, e126, hF⟩ := hF
            refine WL.val (d := (some 30)) (v := t30) (h' := h_119) (by kernel_rfl) (by kernel_rfl) (Eq.trans (by kernel_rfl) (index_row (P := Try.prog) (h := h_119) (t := 47) (e' := 35) (k := .i64) (by kernel_rfl) (by kernel_rfl) (by kernel_rfl) e126)) ?_
            replace hF := obind_some hF; obtain ⟨t31, e127, hF⟩ := hF
            refine WL.val (d := (some 31)) (v := .agg t31) (h' := h_119) (by kernel_rfl) (by kernel_rfl) (Eq.trans (by kernel_rfl) (load_row (P := Try.prog) (h := h_119) (t := 35) (by kernel_rfl) (by kernel_rfl) e127)) ?_
            replace hF := lett_some hF; obtain ⟨h_128, e129, hF⟩ := hF
            refine WL.val (d := (some 9)) (v := (newP h_119)) (h' := h_128) (by kernel_rfl) (by kernel_rfl) (val_ofH e129 (by kernel_rfl)) ?_
            replace hF := obind_some hF; obtain ⟨h_130, e131, hF⟩ := hF
            refine WL.eff (h' := h_130) (by kernel_rfl) (by kernel_rfl) (Eq.trans (by kernel_rfl) (store_row (P := Try.prog) (h := h_128) (t := 35) (v := (.agg t31)) (by kernel_rfl) (by kernel_rfl) e131)) ?_
            refine WL.nil (by kernel_rfl) ?_
            refine Go.weaken (l' := [(0, strA t0), (1, .int .i64 t1), (2, t2), (7, .int .i64 t7_118), (9, (newP h_119)), (26, t2), (27, .int .i64 t27), (28, .int .i64 t28)]) (Fr.sub_cons (by kernel_rfl) (Fr.sub_cons (by kernel_rfl) (Fr.sub_cons (by kernel_rfl) (Fr.sub_cons (by kernel_rfl) (Fr.sub_cons (by kernel_rfl) (Fr.sub_cons (by kernel_rfl) (Fr.sub_cons (by kernel_rfl) (Fr.sub_cons (by kernel_rfl) (Fr.sub_nil _))))))))) ?_
            refine n125 ?_
            refine W.seqK (by kernel_rfl) (fun K132 n132 e132 r132 p132 => ?_)
            refine W.region (by kernel_rfl) ?_
            refine WL.val (d := (some 32)) (v := .int .i64 t7_118) (h' := h_130) (by kernel_rfl) (by kernel_rfl) (by kernel_rfl) ?_
            refine WL.val (d := (some 33)) (v := (AV.ptr (AHeap.next h_119) 12)) (h' := h_130) (by kernel_rfl) (by kernel_rfl) (by kernel_rfl) ?_
            replace hF := obind_some hF; obtain ⟨v34, e133, hF⟩ := hF
            replace hF := obind_some hF; obtain ⟨t34, c134, hF⟩ := hF
            have c134 := avStr_some c134
            subst c134
            refine WL.val (d := (some 34)) (v := strA t34) (h' := h_130) (by kernel_rfl) (by kernel_rfl) (Eq.trans (by kernel_rfl) (load_cell (P := Try.prog) (h := h_130) (t := 9) (by kernel_rfl) e133)) ?_
            refine WL.val (d := (some 35)) (v := .int .i64 (lenS t34)) (h' := h_130) (by kernel_rfl) (by kernel_rfl) (by kernel_rfl) ?_
            replace hF := lett_some hF; obtain ⟨t36, e135, hF⟩ := hF
            refine WL.val (d := (some 36)) (v := .int .i64 t36) (h' := h_130) (by kernel_rfl) (by kernel_rfl) (val_of (AV.int .i64) e135 (by kernel_rfl)) ?_
            replace hF := lett_some hF; obtain ⟨t37, e136, hF⟩ := hF
            refine WL.val (d := (some 37)) (v := .int .i64 t37) (h' := h_130) (by kernel_rfl) (by kernel_rfl) (val_of (AV.int .i64) e136 (by kernel_rfl)) ?_
            refine WL.val (d := (some 7)) (v := .int .i64 t37) (h' := h_130) (by kernel_rfl) (by kernel_rfl) (by kernel_rfl) ?_
            refine WL.nil (by kernel_rfl) ?_
            refine Go.weaken (l' := [(0, strA t0), (1, .int .i64 t1), (2, t2), (7, .int .i64 t37), (26, t2), (27, .int .i64 t27), (28, .int .i64 t28)]) (Fr.sub_cons (by kernel_rfl) (Fr.sub_cons (by kernel_rfl) (Fr.sub_cons (by kernel_rfl) (Fr.sub_cons (by kernel_rfl) (Fr.sub_cons (by kernel_rfl) (Fr.sub_cons (by kernel_rfl) (Fr.sub_cons (by kernel_rfl) (Fr.sub_nil _)))))))) ?_
            refine n132 ?_
            refine W.seqK (by kernel_rfl) (fun K137 n137 e137 r137 p137 => ?_)
            refine W.region (by kernel_rfl) ?_
            refine WL.val (d := (some 38)) (v := .int .i64 t37) (h' := h_130) (by kernel_rfl) (by kernel_rfl) (by kernel_rfl) ?_
            replace hF := lett_some hF; obtain ⟨t39, e138, hF⟩ := hF
            refine WL.val (d := (some 39)) (v := .bool t39) (h' := h_130) (by kernel_rfl) (by kernel_rfl) (val_of AV.bool e138 (by kernel_rfl)) ?_
            refine WL.nil (by kernel_rfl) ?_
            refine Go.weaken (l' := [(0, strA t0), (1, .int .i64 t1), (2, t2), (7, .int .i64 t37), (26, t2), (27, .int .i64 t27), (28, .int .i64 t28), (39, .bool t39)]) (Fr.sub_cons (by kernel_rfl) (Fr.sub_cons (by kernel_rfl) (Fr.sub_cons (by kernel_rfl) (Fr.sub_cons (by kernel_rfl) (Fr.sub_cons (by kernel_rfl) (Fr.sub_cons (by kernel_rfl) (Fr.sub_cons (by kernel_rfl) (Fr.sub_cons (by kernel_rfl) (Fr.sub_nil _))))))))) ?_
            refine n137 ?_
            cases t39 with
            | true =>
              replace hF := ifB_t hF
              refine W.cond_true (by kernel_rfl) (by kernel_rfl) ?_
              refine W.seqK (by kernel_rfl) (fun K139 n139 e139 r139 p139 => ?_)
              refine W.region (by kernel_rfl) ?_
              refine WL.val (d := (some 6)) (v := .bool true) (h' := h_130) (by kernel_rfl) (by kernel_rfl) (by kernel_rfl) ?_
              refine WL.nil (by kernel_rfl) ?_
              refine Go.weaken (l' := [(6, .bool true)]) (Fr.sub_cons (by kernel_rfl) (Fr.sub_nil _)) ?_
              refine n139 ?_
              refine W.ret (by kernel_rfl) ?_
              refine r124 ?_
              refine r123 ?_
              refine r117 ?_
              refine r13 ?_
              refine r10 ?_
              obtain ⟨hF, hF2⟩ := ret_inj hF; subst hF; subst hF2
              exact leave_of (rs := [.tmp 6]) (vs := [.bool true]) (by kernel_rfl) (res_tmp (by kernel_rfl) res_nil) (by kernel_rfl)
            | false =>
              replace hF := ifB_f hF
              refine W.cond_false (by kernel_rfl) (by kernel_rfl) ?_
              refine W.skip (by kernel_rfl) ?_
              refine n124 ?_
              refine n123 ?_
              refine W.region (by kernel_rfl) ?_
              replace hF := lett_some hF; obtain ⟨t40, e140, hF⟩ := hF
              refine WL.val (d := (some 40)) (v := .int .i64 t40) (h' := h_130) (by kernel_rfl) (by kernel_rfl) (val_of (AV.int .i64) e140 (by kernel_rfl)) ?_
              refine WL.val (d := (some 28)) (v := .int .i64 t40) (h' := h_130) (by kernel_rfl) (by kernel_rfl) (by kernel_rfl) ?_
              refine WL.nil (by kernel_rfl) ?_
              refine Go.weaken (l' := [(0, strA t0), (1, .int .i64 t1), (2, t2), (7, .int .i64 t37), (26, t2), (27, .int .i64 t27), (28, .int .i64 t40)]) (Fr.sub_cons (by kernel_rfl) (Fr.sub_cons (by kernel_rfl) (Fr.sub_cons (by kernel_rfl) (Fr.sub_cons (by kernel_rfl) (Fr.sub_cons (by kernel_rfl) (Fr.sub_cons (by kernel_rfl) (Fr.sub_cons (by kernel_rfl) (Fr.sub_nil _)))))))) ?_
              refine n117 ?_
              exact Go.weaken (Fr.sub_cons (by kernel_rfl) (Fr.sub_cons (by kernel_rfl) (Fr.sub_cons (by kernel_rfl) (Fr.sub_cons (by kernel_rfl) (Fr.sub_cons (by kernel_rfl) (Fr.sub_cons (by kernel_rfl) (Fr.sub_cons (by kernel_rfl) (Fr.sub_nil _)))))))) (ih117 _ _ _ hF)
          | false =>
            replace hF := ifB_f hF
            refine W.cond_false (by kernel_rfl) (by kernel_rfl) ?_
            refine W.exit (by kernel_rfl) ?_
            refine e122 ?_
            refine e117 ?_
            refine s13 (by kernel_rfl) ?_
            exact Go.weaken (Fr.sub_cons (by kernel_rfl) (Fr.sub_cons (by kernel_rfl) (Fr.sub_cons (by kernel_rfl) (Fr.sub_cons (by kernel_rfl) (Fr.sub_nil _))))) (J14 _ _ hF)
      exact Go.weaken (Fr.sub_cons (by kernel_rfl) (Fr.sub_cons (by kernel_rfl) (Fr.sub_cons (by kernel_rfl) (Fr.sub_cons (by kernel_rfl) (Fr.sub_cons (by kernel_rfl) (Fr.sub_cons (by kernel_rfl) (Fr.sub_cons (by kernel_rfl) (Fr.sub_nil _)))))))) (L117 _ _ _ _ hF)
  · obtain ⟨q1, q2⟩ := pan_inj q141; subst q1; subst q2
    exact WL.callPanic (hc.ok w0) (d := (some 22)) (by kernel_rfl) (by kernel_rfl) (by kernel_rfl) e5 (p3 (p2 Pan.fin))
noncomputable def law19_SnapPieces_fn (call : CallF) (n : Nat) : FnT := fun args h => match args with
  | [x0, x1, x2] => obind (avStr x0) fun t0 => obind (avInt .i64 x1) fun t1 => law19_SnapPieces call n t0 t1 x2 h
  | _ => none
set_option maxRecDepth 100000 in
theorem law19_SnapPieces_fn_eq (call : CallF) (n : Nat) (t0 : Bytes) (t1 : Int) (t2 : AV) (h : AHeap) : law19_SnapPieces_fn call n [strA t0, .int .i64 t1, t2] h = law19_SnapPieces call n t0 t1 t2 h :=
  (Eq.trans (obind_eq (fun t0 => obind (avInt .i64 (.int .i64 t1)) fun t1 => law19_SnapPieces call n t0 t1 t2 h) (avStr_str t0)) (Eq.trans (obind_eq (fun t1 => law19_SnapPieces call n t0 t1 t2 h) (avInt_int .i64 t1)) rfl))
theorem law19_SnapPieces_holds {call : CallF} (hc : SaysAll Try.prog call) (n : Nat) : Holds Try.prog 4 (law19_SnapPieces_fn call n) := by
  intro args h r h2 e
  unfold law19_SnapPieces_fn at e
  split at e
  · replace e := obind_some e; obtain ⟨t0, c0, e⟩ := e; have c0 := avStr_some c0; subst c0
    replace e := obind_some e; obtain ⟨t1, c1, e⟩ := e; have c1 := avInt_some c1; subst c1
    exact law19_SnapPieces_ok hc e
  · cases e

noncomputable def snap_Inbox_Put (_ : CallF) (_ : Nat) (t0 : AV) (t1 : List AV) (h : AHeap) : R :=
  outK (opBox h 35 (some (.agg t1))) fun v3 h_2 =>
  outK (opBin Try.prog h_2 .eql 27 true (some t0) (some AV.nilp)) fun v9 h_6 =>
  obind (avBool v9) fun t9 =>
  lett (fun (t14 : Bool) (h_9 : AHeap) =>
    lett (fun (t19 : Bool) (h_12 : AHeap) =>
      lett (fun (t24 : Bool) (h_15 : AHeap) =>
        lett (fun (t29 : Bool) (h_18 : AHeap) =>
          ifB t29
          (
            some (.ret (.tup [.int .i64 0, strA ([] : Bytes), .bool false]), h_18))
          (
            obind (fldP 4 v3) fun t30 =>
            obind (ldCell h_18 t30) fun v31 =>
            obind (avInt .i64 v31) fun t31 =>
            obind (fldP 5 v3) fun t32 =>
            obind (ldCell h_18 t32) fun v33 =>
            obind (avInt .i64 v33) fun t33 =>
            lett (newH h_18 39 [.int .i64 0, .int .i64 0]) fun h_29 =>
            obind (stRow h_29 2 ([.int .i64 t31, .int .i64 t33] : List AV) (newP h_18)) fun h_31 =>
            lett (fun (t49 : Bool) (h_36 : AHeap) =>
              lett (fun  (h_38 : AHeap) =>
                lett (fun (t79 : Bool) (h_42 : AHeap) =>
                  lett (fun  (h_44 : AHeap) =>
                    obind (nilC t0) fun t91 =>
                    obind (fldP 3 t91) fun t92 =>
                    obind (ldCell h_44 t92) fun v93 =>
                    obind (lenL v93) fun t94 =>
                    obind (nilC t0) fun t96 =>
                    obind (fldP 2 t96) fun t97 =>
                    obind (ldCell h_44 t97) fun v98 =>
                    obind (avInt .i64 v98) fun t98 =>
                    lett (decide (t94 < t98)) fun (t99 : Bool) =>
                    ifB t99
                    (
                      obind (nilC t0) fun t101 =>
                      obind (fldP 3 t101) fun t102 =>
                      obind (ldCell h_44 t102) fun v103 =>
                      obind (lenL v103) fun t104 =>
                      some (.ret (.tup [.int .i64 t104, strA ([] : Bytes), .bool false]), h_44))
                    (
                      obind (nilC t0) fun t106 =>
                      obind (fldP 2 t106) fun t107 =>
                      obind (ldCell h_44 t107) fun v108 =>
                      obind (avInt .i64 v108) fun t108 =>
                      obind (nilC t0) fun t110 =>
                      obind (fldP 3 t110) fun t111 =>
                      obind (ldCell h_44 t111) fun v112 =>
                      outK (opConv Try.prog h_44 46 9 (some v112)) fun v113 h_69 =>
                      obind (avStr v113) fun t113 =>
                      chk (true && (reLoad Try.prog h_69 3 t107 (.int .i64 t108) && true)) <|
                      some (.ret (.tup [.int .i64 t108, strA t113, .bool true]), h_69))) fun k43 =>
                  ifB t79
                  (
                    obind (nilC t0) fun t82 =>
                    obind (fldP 3 t82) fun t83 =>
                    obind (ldCell h_42 t83) fun v84 =>
                    obind (fldP 12 v3) fun t85 =>
                    obind (ldCell h_42 t85) fun v86 =>
                    obind (avStr v86) fun t86 =>
                    outK (opAppend Try.prog h_42 46 9 v84 (strA t86)) fun v87 h_79 =>
                    obind (nilC t0) fun t88 =>
                    obind (fldP 3 t88) fun t89 =>
                    obind (stRow h_79 1 (AV.cells v87) t89) fun h_83 =>
                    k43 h_83)
                  (
                    k43 h_42)) fun k41 =>
                obind (fldP 10 v3) fun t56 =>
                obind (ldCell h_38 t56) fun v57 =>
                obind (avInt .i64 v57) fun t57 =>
                obind (nilC t0) fun t59 =>
                obind (fldP 3 t59) fun t60 =>
                obind (ldCell h_38 t60) fun v61 =>
                obind (lenL v61) fun t62 =>
                lett ((t57 : Int) == t62) fun (t63 : Bool) =>
                ifB t63
                (
                  obind (fldP 12 v3) fun t65 =>
                  obind (ldCell h_38 t65) fun v66 =>
                  obind (avStr v66) fun t66 =>
                  obind (nilC t0) fun t69 =>
                  obind (fldP 2 t69) fun t70 =>
                  obind (ldCell h_38 t70) fun v71 =>
                  obind (avInt .i64 v71) fun t71 =>
                  obind (nilC t0) fun t73 =>
                  obind (fldP 3 t73) fun t74 =>
                  obind (ldCell h_38 t74) fun v75 =>
                  obind (lenL v75) fun t76 =>
                  lett (IntKind.i64.wrap (t71 - t76)) fun (t77 : Int) =>
                  lett (decide ((lenS t66) ≤ t77)) fun (t78 : Bool) =>
                  k41 t78 h_38)
                (
                  k41 false h_38)) fun k37 =>
              ifB t49
              (
                obind (ldRow h_36 2 (newP h_18)) fun t51 =>
                obind (fldP 11 v3) fun t52 =>
                obind (ldCell h_36 t52) fun v53 =>
                obind (avInt .i64 v53) fun t53 =>
                obind (bldS Try.prog 98 [(0, .agg t51), (1, .int .i64 t53)]) fun t54 =>
                obind (nilC t0) fun t55 =>
                obind (stRow h_36 4 t54 t55) fun h_112 =>
                k37 h_112)
              (
                k37 h_36)) fun k35 =>
            obind (ldRow h_31 2 (newP h_18)) fun t35 =>
            obind (nilC t0) fun t37 =>
            obind (fldP 0 t37) fun t38 =>
            obind (ldRow h_31 2 t38) fun t39 =>
            obind (eqOther Try.prog 39 (.agg t35) (.agg t39)) fun t40 =>
            lett (!t40) fun (t40_119 : Bool) =>
            ifB t40_119
            (
              k35 true h_31)
            (
              obind (fldP 11 v3) fun t42 =>
              obind (ldCell h_31 t42) fun v43 =>
              obind (avInt .i64 v43) fun t43 =>
              obind (nilC t0) fun t45 =>
              obind (fldP 2 t45) fun t46 =>
              obind (ldCell h_31 t46) fun v47 =>
              obind (avInt .i64 v47) fun t47 =>
              lett ((t43 : Int) != t47) fun (t48 : Bool) =>
              k35 t48 h_31))) fun j29 =>
        ifB t24
        (
          j29 true h_15)
        (
          obind (fldP 4 v3) fun t26 =>
          obind (ldCell h_15 t26) fun v27 =>
          obind (avInt .i64 v27) fun t27 =>
          lett (decide (t27 < 1)) fun (t28 : Bool) =>
          j29 t28 h_15)) fun j24 =>
      ifB t19
      (
        j24 true h_12)
      (
        obind (fldP 10 v3) fun t21 =>
        obind (ldCell h_12 t21) fun v22 =>
        obind (avInt .i64 v22) fun t22 =>
        lett (decide (t22 < 0)) fun (t23 : Bool) =>
        j24 t23 h_12)) fun j19 =>
    ifB t14
    (
      j19 true h_9)
    (
      obind (fldP 11 v3) fun t16 =>
      obind (ldCell h_9 t16) fun v17 =>
      obind (avInt .i64 v17) fun t17 =>
      lett (decide (t17 > 262144)) fun (t18 : Bool) =>
      j19 t18 h_9)) fun j14 =>
  ifB t9
  (
    j14 true h_6)
  (
    obind (fldP 11 v3) fun t11 =>
    obind (ldCell h_6 t11) fun v12 =>
    obind (avInt .i64 v12) fun t12 =>
    lett (decide (t12 < 0)) fun (t13 : Bool) =>
    j14 t13 h_6)
set_option maxHeartbeats 4000000 in
set_option maxRecDepth 20000 in
theorem snap_Inbox_Put_ok {call : CallF} (hc : SaysAll Try.prog call) {n : Nat} {t0 : AV} {t1 : List AV} {h : AHeap} {rR : ARes} {hR : AHeap} (hF : snap_Inbox_Put call n t0 t1 h = some (rR, hR)) : Says Try.prog 12 [t0, .agg t1] h rR hR := by
  unfold snap_Inbox_Put at hF
  refine says_of (fn := Try.f12) Try.func12 (c := codeOf Try.f12) (by kernel_rfl) (by kernel_rfl) (fun w0 m0 => ?_)
  refine W.weaken (l' := [(0, t0), (1, .agg t1)]) (Fr.sub_cons (by kernel_rfl) (Fr.sub_cons (by kernel_rfl) (Fr.sub_nil _))) ?_
  refine W.seqK (by kernel_rfl) (fun K1 n1 e1 r1 p1 => ?_)
  refine W.region (by kernel_rfl) ?_
  replace hF := outK_some hF; obtain ⟨v3, h_2, e3, hF⟩ := hF
  refine WL.val (d := (some 3)) (v := v3) (h' := h_2) (by kernel_rfl) (by kernel_rfl) (Eq.trans (by kernel_rfl) e3) ?_
  refine WL.val (d := (some 4)) (v := .int .i64 0) (h' := h_2) (by kernel_rfl) (by kernel_rfl) (by kernel_rfl) ?_
  refine WL.val (d := (some 5)) (v := strA ([] : Bytes)) (h' := h_2) (by kernel_rfl) (by kernel_rfl) (by kernel_rfl) ?_
  refine WL.val (d := (some 6)) (v := .bool false) (h' := h_2) (by kernel_rfl) (by kernel_rfl) (by kernel_rfl) ?_
  refine WL.nil (by kernel_rfl) ?_
  refine Go.weaken (l' := [(0, t0), (3, v3)]) (Fr.sub_cons (by kernel_rfl) (Fr.sub_cons (by kernel_rfl) (Fr.sub_nil _))) ?_
  refine n1 ?_
  refine W.seqK (by kernel_rfl) (fun K4 n4 e4 r4 p4 => ?_)
  refine W.seqK (by kernel_rfl) (fun K5 n5 e5 r5 p5 => ?_)
  refine W.region (by kernel_rfl) ?_
  refine WL.val (d := (some 8)) (v := t0) (h' := h_2) (by kernel_rfl) (by kernel_rfl) (by kernel_rfl) ?_
  replace hF := outK_some hF; obtain ⟨v9, h_6, e7, hF⟩ := hF
  replace hF := obind_some hF; obtain ⟨t9, c8, hF⟩ := hF
  have c8 := avBool_some c8
  subst c8
  refine WL.val (d := (some 9)) (v := .bool t9) (h' := h_6) (by kernel_rfl) (by kernel_rfl) (Eq.trans (by kernel_rfl) e7) ?_
  refine WL.val (d := (some 10)) (v := .bool t9) (h' := h_6) (by kernel_rfl) (by kernel_rfl) (by kernel_rfl) ?_
  replace hF := lett_some hF; obtain ⟨j14, e10, hF⟩ := hF
  have J11 : ∀ (t14 : Bool) (h_9 : AHeap), j14 t14 h_9 = some (rR, hR) → WL Try.prog w0 m0 (Func.ntmps Try.f12) (Code.ops (Code.p1 (Code.p1 (Code.p2 (codeOf Try.f12))))) 7 K5 [(0, t0), (3, v3), (14, .bool t14)] [] h_9 := by
    intro t14 h_9 hF
    rw [e10] at hF
    refine WL.val (d := (some 15)) (v := .bool t14) (h' := h_9) (by kernel_rfl) (by kernel_rfl) (by kernel_rfl) ?_
    replace hF := lett_some hF; obtain ⟨j19, e13, hF⟩ := hF
    have J14 : ∀ (t19 : Bool) (h_12 : AHeap), j19 t19 h_12 = some (rR, hR) → WL Try.prog w0 m0 (Func.ntmps Try.f12) (Code.ops (Code.p1 (Code.p1 (Code.p2 (codeOf Try.f12))))) 12 K5 [(0, t0), (3, v3), (19, .bool t19)] [] h_12 := by
      intro t19 h_12 hF
      rw [e13] at hF
      refine WL.val (d := (some 20)) (v := .bool t19) (h' := h_12) (by kernel_rfl) (by kernel_rfl) (by kernel_rfl) ?_
      replace hF := lett_some hF; obtain ⟨j24, e16, hF⟩ := hF
      have J17 : ∀ (t24 : Bool) (h_15 : AHeap), j24 t24 h_15 = some (rR, hR) → WL Try.prog w0 m0 (Func.ntmps Try.f12) (Code.ops (Code.p1 (Code.p1 (Code.p2 (codeOf Try.f12))))) 17 K5 [(0, t0), (3, v3), (24, .bool t24)] [] h_15 := by
        intro t24 h_15 hF
        rw [e16] at hF
        refine WL.val (d := (some 25)) (v := .bool t24) (h' := h_15) (by kernel_rfl) (by kernel_rfl) (by kernel_rfl) ?_
        replace hF := lett_some hF; obtain ⟨j29, e19, hF⟩ := hF
        have J20 : ∀ (t29 : Bool) (h_18 : AHeap), j29 t29 h_18 = some (rR, hR) → WL Try.prog w0 m0 (Func.ntmps Try.f12) (Code.ops (Code.p1 (Code.p1 (Code.p2 (codeOf Try.f12))))) 22 K5 [(0, t0), (3, v3), (29, .bool t29)] [] h_18 := by
          intro t29 h_18 hF
          rw [e19] at hF
          refine WL.nil (by kernel_rfl) ?_
          refine Go.weaken (l' := [(0, t0), (3, v3), (29, .bool t29)]) (Fr.sub_cons (by kernel_rfl) (Fr.sub_cons (by kernel_rfl) (Fr.sub_cons (by kernel_rfl) (Fr.sub_nil _)))) ?_
          refine n5 ?_
          cases t29 with
          | true =>
            replace hF := ifB_t hF
            refine W.cond_true (by kernel_rfl) (by kernel_rfl) ?_
            refine W.seqK (by kernel_rfl) (fun K21 n21 e21 r21 p21 => ?_)
            refine W.region (by kernel_rfl) ?_
            refine WL.val (d := (some 4)) (v := .int .i64 0) (h' := h_18) (by kernel_rfl) (by kernel_rfl) (by kernel_rfl) ?_
            refine WL.val (d := (some 5)) (v := strA ([] : Bytes)) (h' := h_18) (by kernel_rfl) (by kernel_rfl) (by kernel_rfl) ?_
            refine WL.val (d := (some 6)) (v := .bool false) (h' := h_18) (by kernel_rfl) (by kernel_rfl) (by kernel_rfl) ?_
            refine WL.nil (by kernel_rfl) ?_
            refine Go.weaken (l' := [(4, .int .i64 0), (5, strA ([] : Bytes)), (6, .bool false)]) (Fr.sub_cons (by kernel_rfl) (Fr.sub_cons (by kernel_rfl) (Fr.sub_cons (by kernel_rfl) (Fr.sub_nil _)))) ?_
            refine n21 ?_
            refine W.ret (by kernel_rfl) ?_
            refine r4 ?_
            obtain ⟨hF, hF2⟩ := ret_inj hF; subst hF; subst hF2
            exact leave_of (rs := [.tmp 4, .tmp 5, .tmp 6]) (vs := [.int .i64 0, strA ([] : Bytes), .bool false]) (by kernel_rfl) (res_tmp (by kernel_rfl) (res_tmp (by kernel_rfl) (res_tmp (by kernel_rfl) res_nil))) (by kernel_rfl)
          | false =>
            replace hF := ifB_f hF
            refine W.cond_false (by kernel_rfl) (by kernel_rfl) ?_
            refine W.skip (by kernel_rfl) ?_
            refine n4 ?_
            refine W.seqK (by kernel_rfl) (fun K22 n22 e22 r22 p22 => ?_)
            refine W.region (by kernel_rfl) ?_
            replace hF := obind_some hF; obtain ⟨t30, e23, hF⟩ := hF
            refine WL.val (d := (some 30)) (v := t30) (h' := h_18) (by kernel_rfl) (by kernel_rfl) (Eq.trans (by kernel_rfl) (field_ptr (P := Try.prog) (h := h_18) (s := 35) (f := 4) (by kernel_rfl) e23)) ?_
            replace hF := obind_some hF; obtain ⟨v31, e24, hF⟩ := hF
            replace hF := obind_some hF; obtain ⟨t31, c25, hF⟩ := hF
            have c25 := avInt_some c25
            subst c25
            refine WL.val (d := (some 31)) (v := .int .i64 t31) (h' := h_18) (by kernel_rfl) (by kernel_rfl) (Eq.trans (by kernel_rfl) (load_cell (P := Try.prog) (h := h_18) (t := 3) (by kernel_rfl) e24)) ?_
            replace hF := obind_some hF; obtain ⟨t32, e26, hF⟩ := hF
            refine WL.val (d := (some 32)) (v := t32) (h' := h_18) (by kernel_rfl) (by kernel_rfl) (Eq.trans (by kernel_rfl) (field_ptr (P := Try.prog) (h := h_18) (s := 35) (f := 5) (by kernel_rfl) e26)) ?_
            replace hF := obind_some hF; obtain ⟨v33, e27, hF⟩ := hF
            replace hF := obind_some hF; obtain ⟨t33, c28, hF⟩ := hF
            have c28 := avInt_some c28
            subst c28
            refine WL.val (d := (some 33)) (v := .int .i64 t33) (h' := h_18) (by kernel_rfl) (by kernel_rfl) (Eq.trans (by kernel_rfl) (load_cell (P := Try.prog) (h := h_18) (t := 3) (by kernel_rfl) e27)) ?_
            refine WL.val (d := (some 34)) (v := .agg ([.int .i64 t31, .int .i64 t33] : List AV)) (h' := h_18) (by kernel_rfl) (by kernel_rfl) (by kernel_rfl) ?_
            replace hF := lett_some hF; obtain ⟨h_29, e30, hF⟩ := hF
            refine WL.val (d := (some 7)) (v := (newP h_18)) (h' := h_29) (by kernel_rfl) (by kernel_rfl) (val_ofH e30 (by kernel_rfl)) ?_
            replace hF := obind_some hF; obtain ⟨h_31, e32, hF⟩ := hF
            refine WL.eff (h' := h_31) (by kernel_rfl) (by kernel_rfl) (Eq.trans (by kernel_rfl) (store_row (P := Try.prog) (h := h_29) (t := 39) (v := (.agg ([.int .i64 t31, .int .i64 t33] : List AV))) (by kernel_rfl) (by kernel_rfl) e32)) ?_
            refine WL.nil (by kernel_rfl) ?_
            refine Go.weaken (l' := [(0, t0), (3, v3), (7, (newP h_18))]) (Fr.sub_cons (by kernel_rfl) (Fr.sub_cons (by kernel_rfl) (Fr.sub_cons (by kernel_rfl) (Fr.sub_nil _)))) ?_
            refine n22 ?_
            refine W.seqK (by kernel_rfl) (fun K33 n33 e33 r33 p33 => ?_)
            refine W.seqK (by kernel_rfl) (fun K34 n34 e34 r34 p34 => ?_)
            replace hF := lett_some hF; obtain ⟨k35, e35, hF⟩ := hF
            have J35 : ∀ (t49 : Bool) (h_36 : AHeap), k35 t49 h_36 = some (rR, hR) → Go w0 m0 (Func.ntmps Try.f12) (K34 .normal) [(0, t0), (3, v3), (7, (newP h_18)), (49, .bool t49)] [] h_36 := by
              intro t49 h_36 hF
              rw [e35] at hF
              refine n34 ?_
              replace hF := lett_some hF; obtain ⟨k37, e37, hF⟩ := hF
              have J37 : ∀  (h_38 : AHeap), k37 h_38 = some (rR, hR) → Go w0 m0 (Func.ntmps Try.f12) (K33 .normal) [(0, t0), (3, v3)] [] h_38 := by
                intro  h_38 hF
                rw [e37] at hF
                refine n33 ?_
                refine W.seqK (by kernel_rfl) (fun K39 n39 e39 r39 p39 => ?_)
                refine W.seqK (by kernel_rfl) (fun K40 n40 e40 r40 p40 => ?_)
                replace hF := lett_some hF; obtain ⟨k41, e41, hF⟩ := hF
                have J41 : ∀ (t79 : Bool) (h_42 : AHeap), k41 t79 h_42 = some (rR, hR) → Go w0 m0 (Func.ntmps Try.f12) (K40 .normal) [(0, t0), (3, v3), (79, .bool t79)] [] h_42 := by
                  intro t79 h_42 hF
                  rw [e41] at hF
                  refine n40 ?_
                  replace hF := lett_some hF; obtain ⟨k43, e43, hF⟩ := hF
                  have J43 : ∀  (h_44 : AHeap), k43 h_44 = some (rR, hR) → Go w0 m0 (Func.ntmps Try.f12) (K39 .normal) [(0, t0)] [] h_44 := by
                    intro  h_44 hF
                    rw [e43] at hF
                    refine n39 ?_
                    refine W.seqK (by kernel_rfl) (fun K45 n45 e45 r45 p45 => ?_)
                    refine W.seqK (by kernel_rfl) (fun K46 n46 e46 r46 p46 => ?_)
                    refine W.draw (by kernel_rfl) (hc.ok w0) (plan := [0, 1, 2, 3, 4, 5, 6, 7, 8, 9]) (by kernel_rfl) (by kernel_rfl) (by kernel_rfl) ?_
                    refine WD.val (d := (some 90)) (v := t0) (h' := h_44) (by kernel_rfl) (by kernel_rfl) (by kernel_rfl) (k := 0) (by kernel_rfl) (fun e => absurd e (by decide)) (by decide) ?_
                    replace hF := obind_some hF; obtain ⟨t91, e47, hF⟩ := hF
                    refine WD.val (d := (some 91)) (v := t91) (h' := h_44) (by kernel_rfl) (by kernel_rfl) (Eq.trans (by kernel_rfl) (nil_chk (h := h_44) e47)) (k := 0) (by kernel_rfl) (fun e => absurd e (by decide)) (by decide) ?_
                    replace hF := obind_some hF; obtain ⟨t92, e48, hF⟩ := hF
                    refine WD.val (d := (some 92)) (v := t92) (h' := h_44) (by kernel_rfl) (by kernel_rfl) (Eq.trans (by kernel_rfl) (field_ptr (P := Try.prog) (h := h_44) (s := 98) (f := 2) (by kernel_rfl) e48)) (k := 0) (by kernel_rfl) (fun e => absurd e (by decide)) (by decide) ?_
                    replace hF := obind_some hF; obtain ⟨v93, e49, hF⟩ := hF
                    refine WD.val (d := (some 93)) (v := v93) (h' := h_44) (by kernel_rfl) (by kernel_rfl) (Eq.trans (by kernel_rfl) (load_cell (P := Try.prog) (h := h_44) (t := 46) (by kernel_rfl) e49)) (k := 1) (by kernel_rfl) (fun e => absurd e (by decide)) (by decide) ?_
                    replace hF := obind_some hF; obtain ⟨t94, e50, hF⟩ := hF
                    refine WD.val (d := (some 94)) (v := .int .i64 t94) (h' := h_44) (by kernel_rfl) (by kernel_rfl) (Eq.trans (by kernel_rfl) (len_row (P := Try.prog) (h := h_44) (t := 46) (e' := 5) (by kernel_rfl) e50)) (k := 0) (by kernel_rfl) (fun e => absurd e (by decide)) (by decide) ?_
                    refine WD.val (d := (some 95)) (v := t0) (h' := h_44) (by kernel_rfl) (by kernel_rfl) (by kernel_rfl) (k := 0) (by kernel_rfl) (fun e => absurd e (by decide)) (by decide) ?_
                    replace hF := obind_some hF; obtain ⟨t96, e51, hF⟩ := hF
                    refine WD.val (d := (some 96)) (v := t96) (h' := h_44) (by kernel_rfl) (by kernel_rfl) (Eq.trans (by kernel_rfl) (nil_chk (h := h_44) e51)) (k := 0) (by kernel_rfl) (fun e => absurd e (by decide)) (by decide) ?_
                    replace hF := obind_some hF; obtain ⟨t97, e52, hF⟩ := hF
                    refine WD.val (d := (some 97)) (v := t97) (h' := h_44) (by kernel_rfl) (by kernel_rfl) (Eq.trans (by kernel_rfl) (field_ptr (P := Try.prog) (h := h_44) (s := 98) (f := 1) (by kernel_rfl) e52)) (k := 0) (by kernel_rfl) (fun e => absurd e (by decide)) (by decide) ?_
                    replace hF := obind_some hF; obtain ⟨v98, e53, hF⟩ := hF
                    replace hF := obind_some hF; obtain ⟨t98, c54, hF⟩ := hF
                    have c54 := avInt_some c54
                    subst c54
                    refine WD.val (d := (some 98)) (v := .int .i64 t98) (h' := h_44) (by kernel_rfl) (by kernel_rfl) (Eq.trans (by kernel_rfl) (load_cell (P := Try.prog) (h := h_44) (t := 3) (by kernel_rfl) e53)) (k := 1) (by kernel_rfl) (fun e => absurd e (by decide)) (by decide) ?_
                    replace hF := lett_some hF; obtain ⟨t99, e55, hF⟩ := hF
                    refine WD.val (d := (some 99)) (v := .bool t99) (h' := h_44) (by kernel_rfl) (by kernel_rfl) (val_of AV.bool e55 (by kernel_rfl)) (k := 0) (by kernel_rfl) (fun e => absurd e (by decide)) (by decide) ?_
                    refine WD.nil ?_
                    refine Go.weaken (l' := [(0, t0), (99, .bool t99)]) (Fr.sub_cons (by kernel_rfl) (Fr.sub_cons (by kernel_rfl) (Fr.sub_nil _))) ?_
                    refine n46 ?_
                    cases t99 with
                    | true =>
                      replace hF := ifB_t hF
                      refine W.cond_true (by kernel_rfl) (by kernel_rfl) ?_
                      refine W.seqK (by kernel_rfl) (fun K56 n56 e56 r56 p56 => ?_)
                      refine W.region (by kernel_rfl) ?_
                      refine WL.val (d := (some 100)) (v := t0) (h' := h_44) (by kernel_rfl) (by kernel_rfl) (by kernel_rfl) ?_
                      replace hF := obind_some hF; obtain ⟨t101, e57, hF⟩ := hF
                      refine WL.val (d := (some 101)) (v := t101) (h' := h_44) (by kernel_rfl) (by kernel_rfl) (Eq.trans (by kernel_rfl) (nil_chk (h := h_44) e57)) ?_
                      replace hF := obind_some hF; obtain ⟨t102, e58, hF⟩ := hF
                      refine WL.val (d := (some 102)) (v := t102) (h' := h_44) (by kernel_rfl) (by kernel_rfl) (Eq.trans (by kernel_rfl) (field_ptr (P := Try.prog) (h := h_44) (s := 98) (f := 2) (by kernel_rfl) e58)) ?_
                      replace hF := obind_some hF; obtain ⟨v103, e59, hF⟩ := hF
                      refine WL.val (d := (some 103)) (v := v103) (h' := h_44) (by kernel_rfl) (by kernel_rfl) (Eq.trans (by kernel_rfl) (load_cell (P := Try.prog) (h := h_44) (t := 46) (by kernel_rfl) e59)) ?_
                      replace hF := obind_some hF; obtain ⟨t104, e60, hF⟩ := hF
                      refine WL.val (d := (some 104)) (v := .int .i64 t104) (h' := h_44) (by kernel_rfl) (by kernel_rfl) (Eq.trans (by kernel_rfl) (len_row (P := Try.prog) (h := h_44) (t := 46) (e' := 5) (by kernel_rfl) e60)) ?_
                      refine WL.val (d := (some 4)) (v := .int .i64 t104) (h' := h_44) (by kernel_rfl) (by kernel_rfl) (by kernel_rfl) ?_
                      refine WL.val (d := (some 5)) (v := strA ([] : Bytes)) (h' := h_44) (by kernel_rfl) (by kernel_rfl) (by kernel_rfl) ?_
                      refine WL.val (d := (some 6)) (v := .bool false) (h' := h_44) (by kernel_rfl) (by kernel_rfl) (by kernel_rfl) ?_
                      refine WL.nil (by kernel_rfl) ?_
                      refine Go.weaken (l' := [(4, .int .i64 t104), (5, strA ([] : Bytes)), (6, .bool false)]) (Fr.sub_cons (by kernel_rfl) (Fr.sub_cons (by kernel_rfl) (Fr.sub_cons (by kernel_rfl) (Fr.sub_nil _)))) ?_
                      refine n56 ?_
                      refine W.ret (by kernel_rfl) ?_
                      refine r45 ?_
                      obtain ⟨hF, hF2⟩ := ret_inj hF; subst hF; subst hF2
                      exact leave_of (rs := [.tmp 4, .tmp 5, .tmp 6]) (vs := [.int .i64 t104, strA ([] : Bytes), .bool false]) (by kernel_rfl) (res_tmp (by kernel_rfl) (res_tmp (by kernel_rfl) (res_tmp (by kernel_rfl) res_nil))) (by kernel_rfl)
                    | false =>
                      replace hF := ifB_f hF
                      refine W.cond_false (by kernel_rfl) (by kernel_rfl) ?_
                      refine W.skip (by kernel_rfl) ?_
                      refine n45 ?_
                      refine W.seqK (by kernel_rfl) (fun K61 n61 e61 r61 p61 => ?_)
                      refine W.draw (by kernel_rfl) (hc.ok w0) (plan := [0, 1, 2, 3, 4, 5, 6, 7, 9, 8, 10, 11]) (by kernel_rfl) (by kernel_rfl) (by kernel_rfl) ?_
                      refine WD.val (d := (some 105)) (v := t0) (h' := h_44) (by kernel_rfl) (by kernel_rfl) (by kernel_rfl) (k := 0) (by kernel_rfl) (fun e => absurd e (by decide)) (by decide) ?_
                      replace hF := obind_some hF; obtain ⟨t106, e62, hF⟩ := hF
                      refine WD.val (d := (some 106)) (v := t106) (h' := h_44) (by kernel_rfl) (by kernel_rfl) (Eq.trans (by kernel_rfl) (nil_chk (h := h_44) e62)) (k := 0) (by kernel_rfl) (fun e => absurd e (by decide)) (by decide) ?_
                      replace hF := obind_some hF; obtain ⟨t107, e63, hF⟩ := hF
                      refine WD.val (d := (some 107)) (v := t107) (h' := h_44) (by kernel_rfl) (by kernel_rfl) (Eq.trans (by kernel_rfl) (field_ptr (P := Try.prog) (h := h_44) (s := 98) (f := 1) (by kernel_rfl) e63)) (k := 0) (by kernel_rfl) (fun e => absurd e (by decide)) (by decide) ?_
                      replace hF := obind_some hF; obtain ⟨v108, e64, hF⟩ := hF
                      replace hF := obind_some hF; obtain ⟨t108, c65, hF⟩ := hF
                      have c65 := avInt_some c65
                      subst c65
                      refine WD.val (d := (some 108)) (v := .int .i64 t108) (h' := h_44) (by kernel_rfl) (by kernel_rfl) (Eq.trans (by kernel_rfl) (load_cell (P := Try.prog) (h := h_44) (t := 3) (by kernel_rfl) e64)) (k := 1) (by kernel_rfl) (fun e => absurd e (by decide)) (by decide) ?_
                      refine WD.val (d := (some 109)) (v := t0) (h' := h_44) (by kernel_rfl) (by kernel_rfl) (by kernel_rfl) (k := 0) (by kernel_rfl) (fun e => absurd e (by decide)) (by decide) ?_
                      replace hF := obind_some hF; obtain ⟨t110, e66, hF⟩ := hF
                      refine WD.val (d := (some 110)) (v := t110) (h' := h_44) (by kernel_rfl) (by kernel_rfl) (Eq.trans (by kernel_rfl) (nil_chk (h := h_44) e66)) (k := 0) (by kernel_rfl) (fun e => absurd e (by decide)) (by decide) ?_
                      replace hF := obind_some hF; obtain ⟨t111, e67, hF⟩ := hF
                      refine WD.val (d := (some 111)) (v := t111) (h' := h_44) (by kernel_rfl) (by kernel_rfl) (Eq.trans (by kernel_rfl) (field_ptr (P := Try.prog) (h := h_44) (s := 98) (f := 2) (by kernel_rfl) e67)) (k := 0) (by kernel_rfl) (fun e => absurd e (by decide)) (by decide) ?_
                      replace hF := obind_some hF; obtain ⟨v112, e68, hF⟩ := hF
                      refine WD.val (d := (some 112)) (v := v112) (h' := h_44) (by kernel_rfl) (by kernel_rfl) (Eq.trans (by kernel_rfl) (load_cell (P := Try.prog) (h := h_44) (t := 46) (by kernel_rfl) e68)) (k := 1) (by kernel_rfl) (fun e => absurd e (by decide)) (by decide) ?_
                      refine WD.val (d := (some 4)) (v := .int .i64 t108) (h' := h_44) (by kernel_rfl) (by kernel_rfl) (by kernel_rfl) (k := 0) (by kernel_rfl) (fun e => absurd e (by decide)) (by decide) ?_
                      replace hF := outK_some hF; obtain ⟨v113, h_69, e70, hF⟩ := hF
                      replace hF := obind_some hF; obtain ⟨t113, c71, hF⟩ := hF
                      have c71 := avStr_some c71
                      subst c71
                      replace hF := chk_some hF; obtain ⟨k72, hF⟩ := hF
                      refine WD.val (d := (some 113)) (v := strA t113) (h' := h_69) (by kernel_rfl) (by kernel_rfl) (Eq.trans (by kernel_rfl) e70) (k := 2) (by kernel_rfl) (fun _ => (Eq.trans (by kernel_rfl) k72)) (by decide) ?_
                      refine WD.val (d := (some 5)) (v := strA t113) (h' := h_69) (by kernel_rfl) (by kernel_rfl) (by kernel_rfl) (k := 0) (by kernel_rfl) (fun e => absurd e (by decide)) (by decide) ?_
                      refine WD.val (d := (some 6)) (v := .bool true) (h' := h_69) (by kernel_rfl) (by kernel_rfl) (by kernel_rfl) (k := 0) (by kernel_rfl) (fun e => absurd e (by decide)) (by decide) ?_
                      refine WD.nil ?_
                      refine Go.weaken (l' := [(4, .int .i64 t108), (5, strA t113), (6, .bool true)]) (Fr.sub_cons (by kernel_rfl) (Fr.sub_cons (by kernel_rfl) (Fr.sub_cons (by kernel_rfl) (Fr.sub_nil _)))) ?_
                      refine n61 ?_
                      refine W.ret (by kernel_rfl) ?_
                      obtain ⟨hF, hF2⟩ := ret_inj hF; subst hF; subst hF2
                      exact leave_of (rs := [.tmp 4, .tmp 5, .tmp 6]) (vs := [.int .i64 t108, strA t113, .bool true]) (by kernel_rfl) (res_tmp (by kernel_rfl) (res_tmp (by kernel_rfl) (res_tmp (by kernel_rfl) res_nil))) (by kernel_rfl)
                  cases t79 with
                  | true =>
                    replace hF := ifB_t hF
                    refine W.cond_true (by kernel_rfl) (by kernel_rfl) ?_
                    refine W.draw (by kernel_rfl) (hc.ok w0) (plan := [0, 1, 2, 3, 4, 5, 6, 7, 8, 9, 10]) (by kernel_rfl) (by kernel_rfl) (by kernel_rfl) ?_
                    refine WD.val (d := (some 80)) (v := t0) (h' := h_42) (by kernel_rfl) (by kernel_rfl) (by kernel_rfl) (k := 0) (by kernel_rfl) (fun e => absurd e (by decide)) (by decide) ?_
                    refine WD.val (d := (some 81)) (v := t0) (h' := h_42) (by kernel_rfl) (by kernel_rfl) (by kernel_rfl) (k := 0) (by kernel_rfl) (fun e => absurd e (by decide)) (by decide) ?_
                    replace hF := obind_some hF; obtain ⟨t82, e73, hF⟩ := hF
                    refine WD.val (d := (some 82)) (v := t82) (h' := h_42) (by kernel_rfl) (by kernel_rfl) (Eq.trans (by kernel_rfl) (nil_chk (h := h_42) e73)) (k := 0) (by kernel_rfl) (fun e => absurd e (by decide)) (by decide) ?_
                    replace hF := obind_some hF; obtain ⟨t83, e74, hF⟩ := hF
                    refine WD.val (d := (some 83)) (v := t83) (h' := h_42) (by kernel_rfl) (by kernel_rfl) (Eq.trans (by kernel_rfl) (field_ptr (P := Try.prog) (h := h_42) (s := 98) (f := 2) (by kernel_rfl) e74)) (k := 0) (by kernel_rfl) (fun e => absurd e (by decide)) (by decide) ?_
                    replace hF := obind_some hF; obtain ⟨v84, e75, hF⟩ := hF
                    refine WD.val (d := (some 84)) (v := v84) (h' := h_42) (by kernel_rfl) (by kernel_rfl) (Eq.trans (by kernel_rfl) (load_cell (P := Try.prog) (h := h_42) (t := 46) (by kernel_rfl) e75)) (k := 1) (by kernel_rfl) (fun e => absurd e (by decide)) (by decide) ?_
                    replace hF := obind_some hF; obtain ⟨t85, e76, hF⟩ := hF
                    refine WD.val (d := (some 85)) (v := t85) (h' := h_42) (by kernel_rfl) (by kernel_rfl) (Eq.trans (by kernel_rfl) (field_ptr (P := Try.prog) (h := h_42) (s := 35) (f := 12) (by kernel_rfl) e76)) (k := 0) (by kernel_rfl) (fun e => absurd e (by decide)) (by decide) ?_
                    replace hF := obind_some hF; obtain ⟨v86, e77, hF⟩ := hF
                    replace hF := obind_some hF; obtain ⟨t86, c78, hF⟩ := hF
                    have c78 := avStr_some c78
                    subst c78
                    refine WD.val (d := (some 86)) (v := strA t86) (h' := h_42) (by kernel_rfl) (by kernel_rfl) (Eq.trans (by kernel_rfl) (load_cell (P := Try.prog) (h := h_42) (t := 9) (by kernel_rfl) e77)) (k := 1) (by kernel_rfl) (fun e => absurd e (by decide)) (by decide) ?_
                    replace hF := outK_some hF; obtain ⟨v87, h_79, e80, hF⟩ := hF
                    refine WD.val (d := (some 87)) (v := v87) (h' := h_79) (by kernel_rfl) (by kernel_rfl) (Eq.trans (by kernel_rfl) e80) (k := 2) (by kernel_rfl) (fun _ => (by kernel_rfl)) (by decide) ?_
                    replace hF := obind_some hF; obtain ⟨t88, e81, hF⟩ := hF
                    refine WD.val (d := (some 88)) (v := t88) (h' := h_79) (by kernel_rfl) (by kernel_rfl) (Eq.trans (by kernel_rfl) (nil_chk (h := h_79) e81)) (k := 0) (by kernel_rfl) (fun e => absurd e (by decide)) (by decide) ?_
                    replace hF := obind_some hF; obtain ⟨t89, e82, hF⟩ := hF
                    refine WD.val (d := (some 89)) (v := t89) (h' := h_79) (by kernel_rfl) (by kernel_rfl) (Eq.trans (by kernel_rfl) (field_ptr (P := Try.prog) (h := h_79) (s := 98) (f := 2) (by kernel_rfl) e82)) (k := 0) (by kernel_rfl) (fun e => absurd e (by decide)) (by decide) ?_
                    replace hF := obind_some hF; obtain ⟨h_83, e84, hF⟩ := hF
                    refine WD.eff (h' := h_83) (by kernel_rfl) (by kernel_rfl) (Eq.trans (by kernel_rfl) (store_row (P := Try.prog) (h := h_79) (t := 46) (v := v87) (by kernel_rfl) (by kernel_rfl) e84)) (k := 2) (by kernel_rfl) (fun _ => (by kernel_rfl)) (by decide) ?_
                    refine WD.nil ?_
                    refine Go.weaken (l' := [(0, t0)]) (Fr.sub_cons (by kernel_rfl) (Fr.sub_nil _)) ?_
                    exact Go.weaken (Fr.sub_cons (by kernel_rfl) (Fr.sub_nil _)) (J43 _ hF)
                  | false =>
                    replace hF := ifB_f hF
                    refine W.cond_false (by kernel_rfl) (by kernel_rfl) ?_
                    refine W.skip (by kernel_rfl) ?_
                    exact Go.weaken (Fr.sub_cons (by kernel_rfl) (Fr.sub_nil _)) (J43 _ hF)
                refine W.draw (by kernel_rfl) (hc.ok w0) (plan := [0, 1, 2, 3, 4, 5, 6, 7, 8, 9, 10, 11, 12, 13, 14, 15, 16, 17, 18, 19, 20, 21, 22, 23]) (by kernel_rfl) (by kernel_rfl) (by kernel_rfl) ?_
                replace hF := obind_some hF; obtain ⟨t56, e85, hF⟩ := hF
                refine WD.val (d := (some 56)) (v := t56) (h' := h_38) (by kernel_rfl) (by kernel_rfl) (Eq.trans (by kernel_rfl) (field_ptr (P := Try.prog) (h := h_38) (s := 35) (f := 10) (by kernel_rfl) e85)) (k := 0) (by kernel_rfl) (fun e => absurd e (by decide)) (by decide) ?_
                replace hF := obind_some hF; obtain ⟨v57, e86, hF⟩ := hF
                replace hF := obind_some hF; obtain ⟨t57, c87, hF⟩ := hF
                have c87 := avInt_some c87
                subst c87
                refine WD.val (d := (some 57)) (v := .int .i64 t57) (h' := h_38) (by kernel_rfl) (by kernel_rfl) (Eq.trans (by kernel_rfl) (load_cell (P := Try.prog) (h := h_38) (t := 3) (by kernel_rfl) e86)) (k := 1) (by kernel_rfl) (fun e => absurd e (by decide)) (by decide) ?_
                refine WD.val (d := (some 58)) (v := t0) (h' := h_38) (by kernel_rfl) (by kernel_rfl) (by kernel_rfl) (k := 0) (by kernel_rfl) (fun e => absurd e (by decide)) (by decide) ?_
                replace hF := obind_some hF; obtain ⟨t59, e88, hF⟩ := hF
                refine WD.val (d := (some 59)) (v := t59) (h' := h_38) (by kernel_rfl) (by kernel_rfl) (Eq.trans (by kernel_rfl) (nil_chk (h := h_38) e88)) (k := 0) (by kernel_rfl) (fun e => absurd e (by decide)) (by decide) ?_
                replace hF := obind_some hF; obtain ⟨t60, e89, hF⟩ := hF
                refine WD.val (d := (some 60)) (v := t60) (h' := h_38) (by kernel_rfl) (by kernel_rfl) (Eq.trans (by kernel_rfl) (field_ptr (P := Try.prog) (h := h_38) (s := 98) (f := 2) (by kernel_rfl) e89)) (k := 0) (by kernel_rfl) (fun e => absurd e (by decide)) (by decide) ?_
                replace hF := obind_some hF; obtain ⟨v61, e90, hF⟩ := hF
                refine WD.val (d := (some 61)) (v := v61) (h' := h_38) (by kernel_rfl) (by kernel_rfl) (Eq.trans (by kernel_rfl) (load_cell (P := Try.prog) (h := h_38) (t := 46) (by kernel_rfl) e90)) (k := 1) (by kernel_rfl) (fun e => absurd e (by decide)) (by decide) ?_
                replace hF := obind_some hF; obtain ⟨t62, e91, hF⟩ := hF
                refine WD.val (d := (some 62)) (v := .int .i64 t62) (h' := h_38) (by kernel_rfl) (by kernel_rfl) (Eq.trans (by kernel_rfl) (len_row (P := Try.prog) (h := h_38) (t := 46) (e' := 5) (by kernel_rfl) e91)) (k := 0) (by kernel_rfl) (fun e => absurd e (by decide)) (by decide) ?_
                replace hF := lett_some hF; obtain ⟨t63, e92, hF⟩ := hF
                refine WD.val (d := (some 63)) (v := .bool t63) (h' := h_38) (by kernel_rfl) (by kernel_rfl) (val_of AV.bool e92 (by kernel_rfl)) (k := 0) (by kernel_rfl) (fun e => absurd e (by decide)) (by decide) ?_
                refine WD.val (d := (some 64)) (v := .bool t63) (h' := h_38) (by kernel_rfl) (by kernel_rfl) (by kernel_rfl) (k := 0) (by kernel_rfl) (fun e => absurd e (by decide)) (by decide) ?_
                cases t63 with
                | true =>
                  replace hF := ifB_t hF
                  replace hF := obind_some hF; obtain ⟨t65, e93, hF⟩ := hF
                  refine WD.val (d := (some 65)) (v := t65) (h' := h_38) (by kernel_rfl) (by kernel_rfl) (Eq.trans (by kernel_rfl) (field_ptr (P := Try.prog) (h := h_38) (s := 35) (f := 12) (by kernel_rfl) e93)) (k := 0) (by kernel_rfl) (fun e => absurd e (by decide)) (by decide) ?_
                  replace hF := obind_some hF; obtain ⟨v66, e94, hF⟩ := hF
                  replace hF := obind_some hF; obtain ⟨t66, c95, hF⟩ := hF
                  have c95 := avStr_some c95
                  subst c95
                  refine WD.val (d := (some 66)) (v := strA t66) (h' := h_38) (by kernel_rfl) (by kernel_rfl) (Eq.trans (by kernel_rfl) (load_cell (P := Try.prog) (h := h_38) (t := 9) (by kernel_rfl) e94)) (k := 1) (by kernel_rfl) (fun e => absurd e (by decide)) (by decide) ?_
                  refine WD.val (d := (some 67)) (v := .int .i64 (lenS t66)) (h' := h_38) (by kernel_rfl) (by kernel_rfl) (by kernel_rfl) (k := 0) (by kernel_rfl) (fun e => absurd e (by decide)) (by decide) ?_
                  refine WD.val (d := (some 68)) (v := t0) (h' := h_38) (by kernel_rfl) (by kernel_rfl) (by kernel_rfl) (k := 0) (by kernel_rfl) (fun e => absurd e (by decide)) (by decide) ?_
                  replace hF := obind_some hF; obtain ⟨t69, e96, hF⟩ := hF
                  refine WD.val (d := (some 69)) (v := t69) (h' := h_38) (by kernel_rfl) (by kernel_rfl) (Eq.trans (by kernel_rfl) (nil_chk (h := h_38) e96)) (k := 0) (by kernel_rfl) (fun e => absurd e (by decide)) (by decide) ?_
                  replace hF := obind_some hF; obtain ⟨t70, e97, hF⟩ := hF
                  refine WD.val (d := (some 70)) (v := t70) (h' := h_38) (by kernel_rfl) (by kernel_rfl) (Eq.trans (by kernel_rfl) (field_ptr (P := Try.prog) (h := h_38) (s := 98) (f := 1) (by kernel_rfl) e97)) (k := 0) (by kernel_rfl) (fun e => absurd e (by decide)) (by decide) ?_
                  replace hF := obind_some hF; obtain ⟨v71, e98, hF⟩ := hF
                  replace hF := obind_some hF; obtain ⟨t71, c99, hF⟩ := hF
                  have c99 := avInt_some c99
                  subst c99
                  refine WD.val (d := (some 71)) (v := .int .i64 t71) (h' := h_38) (by kernel_rfl) (by kernel_rfl) (Eq.trans (by kernel_rfl) (load_cell (P := Try.prog) (h := h_38) (t := 3) (by kernel_rfl) e98)) (k := 1) (by kernel_rfl) (fun e => absurd e (by decide)) (by decide) ?_
                  refine WD.val (d := (some 72)) (v := t0) (h' := h_38) (by kernel_rfl) (by kernel_rfl) (by kernel_rfl) (k := 0) (by kernel_rfl) (fun e => absurd e (by decide)) (by decide) ?_
                  replace hF := obind_some hF; obtain ⟨t73, e100, hF⟩ := hF
                  refine WD.val (d := (some 73)) (v := t73) (h' := h_38) (by kernel_rfl) (by kernel_rfl) (Eq.trans (by kernel_rfl) (nil_chk (h := h_38) e100)) (k := 0) (by kernel_rfl) (fun e => absurd e (by decide)) (by decide) ?_
                  replace hF := obind_some hF; obtain ⟨t74, e101, hF⟩ := hF
                  refine WD.val (d := (some 74)) (v := t74) (h' := h_38) (by kernel_rfl) (by kernel_rfl) (Eq.trans (by kernel_rfl) (field_ptr (P := Try.prog) (h := h_38) (s := 98) (f := 2) (by kernel_rfl) e101)) (k := 0) (by kernel_rfl) (fun e => absurd e (by decide)) (by decide) ?_
                  replace hF := obind_some hF; obtain ⟨v75, e102, hF⟩ := hF
                  refine WD.val (d := (some 75)) (v := v75) (h' := h_38) (by kernel_rfl) (by kernel_rfl) (Eq.trans (by kernel_rfl) (load_cell (P := Try.prog) (h := h_38) (t := 46) (by kernel_rfl) e102)) (k := 1) (by kernel_rfl) (fun e => absurd e (by decide)) (by decide) ?_
                  replace hF := obind_some hF; obtain ⟨t76, e103, hF⟩ := hF
                  refine WD.val (d := (some 76)) (v := .int .i64 t76) (h' := h_38) (by kernel_rfl) (by kernel_rfl) (Eq.trans (by kernel_rfl) (len_row (P := Try.prog) (h := h_38) (t := 46) (e' := 5) (by kernel_rfl) e103)) (k := 0) (by kernel_rfl) (fun e => absurd e (by decide)) (by decide) ?_
                  replace hF := lett_some hF; obtain ⟨t77, e104, hF⟩ := hF
                  refine WD.val (d := (some 77)) (v := .int .i64 t77) (h' := h_38) (by kernel_rfl) (by kernel_rfl) (val_of (AV.int .i64) e104 (by kernel_rfl)) (k := 0) (by kernel_rfl) (fun e => absurd e (by decide)) (by decide) ?_
                  replace hF := lett_some hF; obtain ⟨t78, e105, hF⟩ := hF
                  refine WD.val (d := (some 78)) (v := .bool t78) (h' := h_38) (by kernel_rfl) (by kernel_rfl) (val_of AV.bool e105 (by kernel_rfl)) (k := 0) (by kernel_rfl) (fun e => absurd e (by decide)) (by decide) ?_
                  refine WD.val (d := (some 79)) (v := .bool t78) (h' := h_38) (by kernel_rfl) (by kernel_rfl) (by kernel_rfl) (k := 0) (by kernel_rfl) (fun e => absurd e (by decide)) (by decide) ?_
                  refine WD.nil ?_
                  exact Go.weaken (Fr.sub_cons (by kernel_rfl) (Fr.sub_cons (by kernel_rfl) (Fr.sub_cons (by kernel_rfl) (Fr.sub_nil _)))) (J41 _ _ hF)
                | false =>
                  replace hF := ifB_f hF
                  refine WD.not (d := (some 65)) (by kernel_rfl) (by kernel_rfl) (k := 0) (by kernel_rfl) (fun e => absurd e (by decide)) (by decide) ?_
                  refine WD.not (d := (some 66)) (by kernel_rfl) (by kernel_rfl) (k := 1) (by kernel_rfl) (fun e => absurd e (by decide)) (by decide) ?_
                  refine WD.not (d := (some 67)) (by kernel_rfl) (by kernel_rfl) (k := 0) (by kernel_rfl) (fun e => absurd e (by decide)) (by decide) ?_
                  refine WD.not (d := (some 68)) (by kernel_rfl) (by kernel_rfl) (k := 0) (by kernel_rfl) (fun e => absurd e (by decide)) (by decide) ?_
                  refine WD.not (d := (some 69)) (by kernel_rfl) (by kernel_rfl) (k := 0) (by kernel_rfl) (fun e => absurd e (by decide)) (by decide) ?_
                  refine WD.not (d := (some 70)) (by kernel_rfl) (by kernel_rfl) (k := 0) (by kernel_rfl) (fun e => absurd e (by decide)) (by decide) ?_
                  refine WD.not (d := (some 71)) (by kernel_rfl) (by kernel_rfl) (k := 1) (by kernel_rfl) (fun e => absurd e (by decide)) (by decide) ?_
                  refine WD.not (d := (some 72)) (by kernel_rfl) (by kernel_rfl) (k := 0) (by kernel_rfl) (fun e => absurd e (by decide)) (by decide) ?_
                  refine WD.not (d := (some 73)) (by kernel_rfl) (by kernel_rfl) (k := 0) (by kernel_rfl) (fun e => absurd e (by decide)) (by decide) ?_
                  refine WD.not (d := (some 74)) (by kernel_rfl) (by kernel_rfl) (k := 0) (by kernel_rfl) (fun e => absurd e (by decide)) (by decide) ?_
                  refine WD.not (d := (some 75)) (by kernel_rfl) (by kernel_rfl) (k := 1) (by kernel_rfl) (fun e => absurd e (by decide)) (by decide) ?_
                  refine WD.not (d := (some 76)) (by kernel_rfl) (by kernel_rfl) (k := 0) (by kernel_rfl) (fun e => absurd e (by decide)) (by decide) ?_
                  refine WD.not (d := (some 77)) (by kernel_rfl) (by kernel_rfl) (k := 0) (by kernel_rfl) (fun e => absurd e (by decide)) (by decide) ?_
                  refine WD.not (d := (some 78)) (by kernel_rfl) (by kernel_rfl) (k := 0) (by kernel_rfl) (fun e => absurd e (by decide)) (by decide) ?_
                  refine WD.val (d := (some 79)) (v := .bool false) (h' := h_38) (by kernel_rfl) (by kernel_rfl) (by kernel_rfl) (k := 0) (by kernel_rfl) (fun e => absurd e (by decide)) (by decide) ?_
                  refine WD.nil ?_
                  exact Go.weaken (Fr.sub_cons (by kernel_rfl) (Fr.sub_cons (by kernel_rfl) (Fr.sub_cons (by kernel_rfl) (Fr.sub_nil _)))) (J41 _ _ hF)
              cases t49 with
              | true =>
                replace hF := ifB_t hF
                refine W.cond_true (by kernel_rfl) (by kernel_rfl) ?_
                refine W.region (by kernel_rfl) ?_
                refine WL.val (d := (some 50)) (v := t0) (h' := h_36) (by kernel_rfl) (by kernel_rfl) (by kernel_rfl) ?_
                replace hF := obind_some hF; obtain ⟨t51, e106, hF⟩ := hF
                refine WL.val (d := (some 51)) (v := .agg t51) (h' := h_36) (by kernel_rfl) (by kernel_rfl) (Eq.trans (by kernel_rfl) (load_row (P := Try.prog) (h := h_36) (t := 39) (by kernel_rfl) (by kernel_rfl) e106)) ?_
                replace hF := obind_some hF; obtain ⟨t52, e107, hF⟩ := hF
                refine WL.val (d := (some 52)) (v := t52) (h' := h_36) (by kernel_rfl) (by kernel_rfl) (Eq.trans (by kernel_rfl) (field_ptr (P := Try.prog) (h := h_36) (s := 35) (f := 11) (by kernel_rfl) e107)) ?_
                replace hF := obind_some hF; obtain ⟨v53, e108, hF⟩ := hF
                replace hF := obind_some hF; obtain ⟨t53, c109, hF⟩ := hF
                have c109 := avInt_some c109
                subst c109
                refine WL.val (d := (some 53)) (v := .int .i64 t53) (h' := h_36) (by kernel_rfl) (by kernel_rfl) (Eq.trans (by kernel_rfl) (load_cell (P := Try.prog) (h := h_36) (t := 3) (by kernel_rfl) e108)) ?_
                replace hF := obind_some hF; obtain ⟨t54, e110, hF⟩ := hF
                refine WL.val (d := (some 54)) (v := .agg t54) (h' := h_36) (by kernel_rfl) (by kernel_rfl) (bld_ok (by kernel_rfl) e110) ?_
                replace hF := obind_some hF; obtain ⟨t55, e111, hF⟩ := hF
                refine WL.val (d := (some 55)) (v := t55) (h' := h_36) (by kernel_rfl) (by kernel_rfl) (Eq.trans (by kernel_rfl) (nil_chk (h := h_36) e111)) ?_
                replace hF := obind_some hF; obtain ⟨h_112, e113, hF⟩ := hF
                refine WL.eff (h' := h_112) (by kernel_rfl) (by kernel_rfl) (Eq.trans (by kernel_rfl) (store_row (P := Try.prog) (h := h_36) (t := 98) (v := (.agg t54)) (by kernel_rfl) (by kernel_rfl) e113)) ?_
                refine WL.nil (by kernel_rfl) ?_
                refine Go.weaken (l' := [(0, t0), (3, v3)]) (Fr.sub_cons (by kernel_rfl) (Fr.sub_cons (by kernel_rfl) (Fr.sub_nil _))) ?_
                exact Go.weaken (Fr.sub_cons (by kernel_rfl) (Fr.sub_cons (by kernel_rfl) (Fr.sub_nil _))) (J37 _ hF)
              | false =>
                replace hF := ifB_f hF
                refine W.cond_false (by kernel_rfl) (by kernel_rfl) ?_
                refine W.skip (by kernel_rfl) ?_
                exact Go.weaken (Fr.sub_cons (by kernel_rfl) (Fr.sub_cons (by kernel_rfl) (Fr.sub_nil _))) (J37 _ hF)
            refine W.draw (by kernel_rfl) (hc.ok w0) (plan := [0, 1, 2, 3, 4, 5, 6, 7, 8, 9, 10, 11, 12, 13, 14]) (by kernel_rfl) (by kernel_rfl) (by kernel_rfl) ?_
            replace hF := obind_some hF; obtain ⟨t35, e114, hF⟩ := hF
            refine WD.val (d := (some 35)) (v := .agg t35) (h' := h_31) (by kernel_rfl) (by kernel_rfl) (Eq.trans (by kernel_rfl) (load_row (P := Try.prog) (h := h_31) (t := 39) (by kernel_rfl) (by kernel_rfl) e114)) (k := 1) (by kernel_rfl) (fun e => absurd e (by decide)) (by decide) ?_
            refine WD.val (d := (some 36)) (v := t0) (h' := h_31) (by kernel_rfl) (by kernel_rfl) (by kernel_rfl) (k := 0) (by kernel_rfl) (fun e => absurd e (by decide)) (by decide) ?_
            replace hF := obind_some hF; obtain ⟨t37, e115, hF⟩ := hF
            refine WD.val (d := (some 37)) (v := t37) (h' := h_31) (by kernel_rfl) (by kernel_rfl) (Eq.trans (by kernel_rfl) (nil_chk (h := h_31) e115)) (k := 0) (by kernel_rfl) (fun e => absurd e (by decide)) (by decide) ?_
            replace hF := obind_some hF; obtain ⟨t38, e116, hF⟩ := hF
            refine WD.val (d := (some 38)) (v := t38) (h' := h_31) (by kernel_rfl) (by kernel_rfl) (Eq.trans (by kernel_rfl) (field_ptr (P := Try.prog) (h := h_31) (s := 98) (f := 0) (by kernel_rfl) e116)) (k := 0) (by kernel_rfl) (fun e => absurd e (by decide)) (by decide) ?_
            replace hF := obind_some hF; obtain ⟨t39, e117, hF⟩ := hF
            refine WD.val (d := (some 39)) (v := .agg t39) (h' := h_31) (by kernel_rfl) (by kernel_rfl) (Eq.trans (by kernel_rfl) (load_row (P := Try.prog) (h := h_31) (t := 39) (by kernel_rfl) (by kernel_rfl) e117)) (k := 1) (by kernel_rfl) (fun e => absurd e (by decide)) (by decide) ?_
            replace hF := obind_some hF; obtain ⟨t40, e118, hF⟩ := hF
            replace hF := lett_some hF; obtain ⟨t40_119, e120, hF⟩ := hF
            refine WD.val (d := (some 40)) (v := .bool t40_119) (h' := h_31) (by kernel_rfl) (by kernel_rfl) (val_of AV.bool e120 (Eq.trans (by kernel_rfl) (neq_other (P := Try.prog) (h := h_31) (t := 39) (lit := false) (by kernel_rfl) e118))) (k := 0) (by kernel_rfl) (fun e => absurd e (by decide)) (by decide) ?_
            refine WD.val (d := (some 41)) (v := .bool t40_119) (h' := h_31) (by kernel_rfl) (by kernel_rfl) (by kernel_rfl) (k := 0) (by kernel_rfl) (fun e => absurd e (by decide)) (by decide) ?_
            cases t40_119 with
            | true =>
              replace hF := ifB_t hF
              refine WD.not (d := (some 42)) (by kernel_rfl) (by kernel_rfl) (k := 0) (by kernel_rfl) (fun e => absurd e (by decide)) (by decide) ?_
              refine WD.not (d := (some 43)) (by kernel_rfl) (by kernel_rfl) (k := 1) (by kernel_rfl) (fun e => absurd e (by decide)) (by decide) ?_
              refine WD.not (d := (some 44)) (by kernel_rfl) (by kernel_rfl) (k := 0) (by kernel_rfl) (fun e => absurd e (by decide)) (by decide) ?_
              refine WD.not (d := (some 45)) (by kernel_rfl) (by kernel_rfl) (k := 0) (by kernel_rfl) (fun e => absurd e (by decide)) (by decide) ?_
              refine WD.not (d := (some 46)) (by kernel_rfl) (by kernel_rfl) (k := 0) (by kernel_rfl) (fun e => absurd e (by decide)) (by decide) ?_
              refine WD.not (d := (some 47)) (by kernel_rfl) (by kernel_rfl) (k := 1) (by kernel_rfl) (fun e => absurd e (by decide)) (by decide) ?_
              refine WD.not (d := (some 48)) (by kernel_rfl) (by kernel_rfl) (k := 0) (by kernel_rfl) (fun e => absurd e (by decide)) (by decide) ?_
              refine WD.val (d := (some 49)) (v := .bool true) (h' := h_31) (by kernel_rfl) (by kernel_rfl) (by kernel_rfl) (k := 0) (by kernel_rfl) (fun e => absurd e (by decide)) (by decide) ?_
              refine WD.nil ?_
              exact Go.weaken (Fr.sub_cons (by kernel_rfl) (Fr.sub_cons (by kernel_rfl) (Fr.sub_cons (by kernel_rfl) (Fr.sub_cons (by kernel_rfl) (Fr.sub_nil _))))) (J35 _ _ hF)
            | false =>
              replace hF := ifB_f hF
              replace hF := obind_some hF; obtain ⟨t42, e121, hF⟩ := hF
              refine WD.val (d := (some 42)) (v := t42) (h' := h_31) (by kernel_rfl) (by kernel_rfl) (Eq.trans (by kernel_rfl) (field_ptr (P := Try.prog) (h := h_31) (s := 35) (f := 11) (by kernel_rfl) e121)) (k := 0) (by kernel_rfl) (fun e => absurd e (by decide)) (by decide) ?_
              replace hF := obind_some hF; obtain ⟨v43, e122, hF⟩ := hF
              replace hF := obind_some hF; obtain ⟨t43, c123, hF⟩ := hF
              have c123 := avInt_some c123
              subst c123
              refine WD.val (d := (some 43)) (v := .int .i64 t43) (h' := h_31) (by kernel_rfl) (by kernel_rfl) (Eq.trans (by kernel_rfl) (load_cell (P := Try.prog) (h := h_31) (t := 3) (by kernel_rfl) e122)) (k := 1) (by kernel_rfl) (fun e => absurd e (by decide)) (by decide) ?_
              refine WD.val (d := (some 44)) (v := t0) (h' := h_31) (by kernel_rfl) (by kernel_rfl) (by kernel_rfl) (k := 0) (by kernel_rfl) (fun e => absurd e (by decide)) (by decide) ?_
              replace hF := obind_some hF; obtain ⟨t45, e124, hF⟩ := hF
              refine WD.val (d := (some 45)) (v := t45) (h' := h_31) (by kernel_rfl) (by kernel_rfl) (Eq.trans (by kernel_rfl) (nil_chk (h := h_31) e124)) (k := 0) (by kernel_rfl) (fun e => absurd e (by decide)) (by decide) ?_
              replace hF := obind_some hF; obtain ⟨t46, e125, hF⟩ := hF
              refine WD.val (d := (some 46)) (v := t46) (h' := h_31) (by kernel_rfl) (by kernel_rfl) (Eq.trans (by kernel_rfl) (field_ptr (P := Try.prog) (h := h_31) (s := 98) (f := 1) (by kernel_rfl) e125)) (k := 0) (by kernel_rfl) (fun e => absurd e (by decide)) (by decide) ?_
              replace hF := obind_some hF; obtain ⟨v47, e126, hF⟩ := hF
              replace hF := obind_some hF; obtain ⟨t47, c127, hF⟩ := hF
              have c127 := avInt_some c127
              subst c127
              refine WD.val (d := (some 47)) (v := .int .i64 t47) (h' := h_31) (by kernel_rfl) (by kernel_rfl) (Eq.trans (by kernel_rfl) (load_cell (P := Try.prog) (h := h_31) (t := 3) (by kernel_rfl) e126)) (k := 1) (by kernel_rfl) (fun e => absurd e (by decide)) (by decide) ?_
              replace hF := lett_some hF; obtain ⟨t48, e128, hF⟩ := hF
              refine WD.val (d := (some 48)) (v := .bool t48) (h' := h_31) (by kernel_rfl) (by kernel_rfl) (val_of AV.bool e128 (by kernel_rfl)) (k := 0) (by kernel_rfl) (fun e => absurd e (by decide)) (by decide) ?_
              refine WD.val (d := (some 49)) (v := .bool t48) (h' := h_31) (by kernel_rfl) (by kernel_rfl) (by kernel_rfl) (k := 0) (by kernel_rfl) (fun e => absurd e (by decide)) (by decide) ?_
              refine WD.nil ?_
              exact Go.weaken (Fr.sub_cons (by kernel_rfl) (Fr.sub_cons (by kernel_rfl) (Fr.sub_cons (by kernel_rfl) (Fr.sub_cons (by kernel_rfl) (Fr.sub_nil _))))) (J35 _ _ hF)
        cases t24 with
        | true =>
          replace hF := ifB_t hF
          refine WL.not (d := (some 26)) (by kernel_rfl) (by kernel_rfl) ?_
          refine WL.not (d := (some 27)) (by kernel_rfl) (by kernel_rfl) ?_
          refine WL.not (d := (some 28)) (by kernel_rfl) (by kernel_rfl) ?_
          refine WL.val (d := (some 29)) (v := .bool true) (h' := h_15) (by kernel_rfl) (by kernel_rfl) (by kernel_rfl) ?_
          exact WL.weaken (Fr.sub_cons (by kernel_rfl) (Fr.sub_cons (by kernel_rfl) (Fr.sub_cons (by kernel_rfl) (Fr.sub_nil _)))) (J20 _ _ hF)
        | false =>
          replace hF := ifB_f hF
          replace hF := obind_some hF; obtain ⟨t26, e129, hF⟩ := hF
          refine WL.val (d := (some 26)) (v := t26) (h' := h_15) (by kernel_rfl) (by kernel_rfl) (Eq.trans (by kernel_rfl) (field_ptr (P := Try.prog) (h := h_15) (s := 35) (f := 4) (by kernel_rfl) e129)) ?_
          replace hF := obind_some hF; obtain ⟨v27, e130, hF⟩ := hF
          replace hF := obind_some hF; obtain ⟨t27, c131, hF⟩ := hF
          have c131 := avInt_some c131
          subst c131
          refine WL.val (d := (some 27)) (v := .int .i64 t27) (h' := h_15) (by kernel_rfl) (by kernel_rfl) (Eq.trans (by kernel_rfl) (load_cell (P := Try.prog) (h := h_15) (t := 3) (by kernel_rfl) e130)) ?_
          replace hF := lett_some hF; obtain ⟨t28, e132, hF⟩ := hF
          refine WL.val (d := (some 28)) (v := .bool t28) (h' := h_15) (by kernel_rfl) (by kernel_rfl) (val_of AV.bool e132 (by kernel_rfl)) ?_
          refine WL.val (d := (some 29)) (v := .bool t28) (h' := h_15) (by kernel_rfl) (by kernel_rfl) (by kernel_rfl) ?_
          exact WL.weaken (Fr.sub_cons (by kernel_rfl) (Fr.sub_cons (by kernel_rfl) (Fr.sub_cons (by kernel_rfl) (Fr.sub_nil _)))) (J20 _ _ hF)
      cases t19 with
      | true =>
        replace hF := ifB_t hF
        refine WL.not (d := (some 21)) (by kernel_rfl) (by kernel_rfl) ?_
        refine WL.not (d := (some 22)) (by kernel_rfl) (by kernel_rfl) ?_
        refine WL.not (d := (some 23)) (by kernel_rfl) (by kernel_rfl) ?_
        refine WL.val (d := (some 24)) (v := .bool true) (h' := h_12) (by kernel_rfl) (by kernel_rfl) (by kernel_rfl) ?_
        exact WL.weaken (Fr.sub_cons (by kernel_rfl) (Fr.sub_cons (by kernel_rfl) (Fr.sub_cons (by kernel_rfl) (Fr.sub_nil _)))) (J17 _ _ hF)
      | false =>
        replace hF := ifB_f hF
        replace hF := obind_some hF; obtain ⟨t21, e133, hF⟩ := hF
        refine WL.val (d := (some 21)) (v := t21) (h' := h_12) (by kernel_rfl) (by kernel_rfl) (Eq.trans (by kernel_rfl) (field_ptr (P := Try.prog) (h := h_12) (s := 35) (f := 10) (by kernel_rfl) e133)) ?_
        replace hF := obind_some hF; obtain ⟨v22, e134, hF⟩ := hF
        replace hF := obind_some hF; obtain ⟨t22, c135, hF⟩ := hF
        have c135 := avInt_some c135
        subst c135
        refine WL.val (d := (some 22)) (v := .int .i64 t22) (h' := h_12) (by kernel_rfl) (by kernel_rfl) (Eq.trans (by kernel_rfl) (load_cell (P := Try.prog) (h := h_12) (t := 3) (by kernel_rfl) e134)) ?_
        replace hF := lett_some hF; obtain ⟨t23, e136, hF⟩ := hF
        refine WL.val (d := (some 23)) (v := .bool t23) (h' := h_12) (by kernel_rfl) (by kernel_rfl) (val_of AV.bool e136 (by kernel_rfl)) ?_
        refine WL.val (d := (some 24)) (v := .bool t23) (h' := h_12) (by kernel_rfl) (by kernel_rfl) (by kernel_rfl) ?_
        exact WL.weaken (Fr.sub_cons (by kernel_rfl) (Fr.sub_cons (by kernel_rfl) (Fr.sub_cons (by kernel_rfl) (Fr.sub_nil _)))) (J17 _ _ hF)
    cases t14 with
    | true =>
      replace hF := ifB_t hF
      refine WL.not (d := (some 16)) (by kernel_rfl) (by kernel_rfl) ?_
      refine WL.not (d := (some 17)) (by kernel_rfl) (by kernel_rfl) ?_
      refine WL.not (d := (some 18)) (by kernel_rfl) (by kernel_rfl) ?_
      refine WL.val (d := (some 19)) (v := .bool true) (h' := h_9) (by kernel_rfl) (by kernel_rfl) (by kernel_rfl) ?_
      exact WL.weaken (Fr.sub_cons (by kernel_rfl) (Fr.sub_cons (by kernel_rfl) (Fr.sub_cons (by kernel_rfl) (Fr.sub_nil _)))) (J14 _ _ hF)
    | false =>
      replace hF := ifB_f hF
      replace hF := obind_some hF; obtain ⟨t16, e137, hF⟩ := hF
      refine WL.val (d := (some 16)) (v := t16) (h' := h_9) (by kernel_rfl) (by kernel_rfl) (Eq.trans (by kernel_rfl) (field_ptr (P := Try.prog) (h := h_9) (s := 35) (f := 11) (by kernel_rfl) e137)) ?_
      replace hF := obind_some hF; obtain ⟨v17, e138, hF⟩ := hF
      replace hF := obind_some hF; obtain ⟨t17, c139, hF⟩ := hF
      have c139 := avInt_some c139
      subst c139
      refine WL.val (d := (some 17)) (v := .int .i64 t17) (h' := h_9) (by kernel_rfl) (by kernel_rfl) (Eq.trans (by kernel_rfl) (load_cell (P := Try.prog) (h := h_9) (t := 3) (by kernel_rfl) e138)) ?_
      replace hF := lett_some hF; obtain ⟨t18, e140, hF⟩ := hF
      refine WL.val (d := (some 18)) (v := .bool t18) (h' := h_9) (by kernel_rfl) (by kernel_rfl) (val_of AV.bool e140 (by kernel_rfl)) ?_
      refine WL.val (d := (some 19)) (v := .bool t18) (h' := h_9) (by kernel_rfl) (by kernel_rfl) (by kernel_rfl) ?_
      exact WL.weaken (Fr.sub_cons (by kernel_rfl) (Fr.sub_cons (by kernel_rfl) (Fr.sub_cons (by kernel_rfl) (Fr.sub_nil _)))) (J14 _ _ hF)
  cases t9 with
  | true =>
    replace hF := ifB_t hF
    refine WL.not (d := (some 11)) (by kernel_rfl) (by kernel_rfl) ?_
    refine WL.not (d := (some 12)) (by kernel_rfl) (by kernel_rfl) ?_
    refine WL.not (d := (some 13)) (by kernel_rfl) (by kernel_rfl) ?_
    refine WL.val (d := (some 14)) (v := .bool true) (h' := h_6) (by kernel_rfl) (by kernel_rfl) (by kernel_rfl) ?_
    exact WL.weaken (Fr.sub_cons (by kernel_rfl) (Fr.sub_cons (by kernel_rfl) (Fr.sub_cons (by kernel_rfl) (Fr.sub_nil _)))) (J11 _ _ hF)
  | false =>
    replace hF := ifB_f hF
    replace hF := obind_some hF; obtain ⟨t11, e141, hF⟩ := hF
    refine WL.val (d := (some 11)) (v := t11) (h' := h_6) (by kernel_rfl) (by kernel_rfl) (Eq.trans (by kernel_rfl) (field_ptr (P := Try.prog) (h := h_6) (s := 35) (f := 11) (by kernel_rfl) e141)) ?_
    replace hF := obind_some hF; obtain ⟨v12, e142, hF⟩ := hF
    replace hF := obind_some hF; obtain ⟨t12, c143, hF⟩ := hF
    have c143 := avInt_some c143
    subst c143
    refine WL.val (d := (some 12)) (v := .int .i64 t12) (h' := h_6) (by kernel_rfl) (by kernel_rfl) (Eq.trans (by kernel_rfl) (load_cell (P := Try.prog) (h := h_6) (t := 3) (by kernel_rfl) e142)) ?_
    replace hF := lett_some hF; obtain ⟨t13, e144, hF⟩ := hF
    refine WL.val (d := (some 13)) (v := .bool t13) (h' := h_6) (by kernel_rfl) (by kernel_rfl) (val_of AV.bool e144 (by kernel_rfl)) ?_
    refine WL.val (d := (some 14)) (v := .bool t13) (h' := h_6) (by kernel_rfl) (by kernel_rfl) (by kernel_rfl) ?_
    exact WL.weaken (Fr.sub_cons (by kernel_rfl) (Fr.sub_cons (by kernel_rfl) (Fr.sub_cons (by kernel_rfl) (Fr.sub_nil _)))) (J11 _ _ hF)
noncomputable def snap_Inbox_Put_fn (call : CallF) (n : Nat) : FnT := fun args h => match args with
  | [x0, x1] => obind (avAgg x1) fun t1 => snap_Inbox_Put call n x0 t1 h
  | _ => none
set_option maxRecDepth 100000 in
theorem snap_Inbox_Put_fn_eq (call : CallF) (n : Nat) (t0 : AV) (t1 : List AV) (h : AHeap) : snap_Inbox_Put_fn call n [t0, .agg t1] h = snap_Inbox_Put call n t0 t1 h :=
  (Eq.trans (obind_eq (fun t1 => snap_Inbox_Put call n t0 t1 h) (avAgg_agg t1)) rfl)
theorem snap_Inbox_Put_holds {call : CallF} (hc : SaysAll Try.prog call) (n : Nat) : Holds Try.prog 12 (snap_Inbox_Put_fn call n) := by
  intro args h r h2 e
  unfold snap_Inbox_Put_fn at e
  split at e
  · replace e := obind_some e; obtain ⟨t1, c1, e⟩ := e; have c1 := avAgg_some c1; subst c1
    exact snap_Inbox_Put_ok hc e
  · cases e

noncomputable def ref19_Inbox_Put (_ : CallF) (_ : Nat) (t0 : AV) (t1 : List AV) (h : AHeap) : R :=
  outK (opBox h 35 (some (.agg t1))) fun v3 h_2 =>
  obind (fldP 11 v3) fun t7 =>
  obind (ldCell h_2 t7) fun v8 =>
  obind (avInt .i64 v8) fun t8 =>
  lett (decide (t8 < 0)) fun (t9 : Bool) =>
  lett (fun (t14 : Bool) (h_10 : AHeap) =>
    lett (fun (t19 : Bool) (h_13 : AHeap) =>
      lett (fun (t24 : Bool) (h_16 : AHeap) =>
        ifB t24
        (
          some (.ret (.tup [.int .i64 0, strA ([] : Bytes), .bool false]), h_16))
        (
          lett (fun (t51 : Bool) (h_23 : AHeap) =>
            lett (fun  (h_25 : AHeap) =>
              lett (fun (t91 : Bool) (h_29 : AHeap) =>
                lett (fun  (h_31 : AHeap) =>
                  obind (nilC t0) fun t103 =>
                  obind (fldP 3 t103) fun t104 =>
                  obind (ldCell h_31 t104) fun v105 =>
                  obind (avStr v105) fun t105 =>
                  obind (nilC t0) fun t108 =>
                  obind (fldP 2 t108) fun t109 =>
                  obind (ldCell h_31 t109) fun v110 =>
                  obind (avInt .i64 v110) fun t110 =>
                  lett (((lenS t105) : Int) == t110) fun (t111 : Bool) =>
                  ifB t111
                  (
                    obind (nilC t0) fun t113 =>
                    obind (fldP 2 t113) fun t114 =>
                    obind (ldCell h_31 t114) fun v115 =>
                    obind (avInt .i64 v115) fun t115 =>
                    obind (nilC t0) fun t117 =>
                    obind (fldP 3 t117) fun t118 =>
                    obind (ldCell h_31 t118) fun v119 =>
                    obind (avStr v119) fun t119 =>
                    some (.ret (.tup [.int .i64 t115, strA t119, .bool true]), h_31))
                  (
                    obind (nilC t0) fun t121 =>
                    obind (fldP 3 t121) fun t122 =>
                    obind (ldCell h_31 t122) fun v123 =>
                    obind (avStr v123) fun t123 =>
                    some (.ret (.tup [.int .i64 (lenS t123), strA ([] : Bytes), .bool false]), h_31))) fun k30 =>
                ifB t91
                (
                  obind (nilC t0) fun t94 =>
                  obind (fldP 3 t94) fun t95 =>
                  obind (ldCell h_29 t95) fun v96 =>
                  obind (avStr v96) fun t96 =>
                  obind (fldP 12 v3) fun t97 =>
                  obind (ldCell h_29 t97) fun v98 =>
                  obind (avStr v98) fun t98 =>
                  obind (addS t96 t98) fun t99 =>
                  obind (nilC t0) fun t100 =>
                  obind (fldP 3 t100) fun t101 =>
                  obind (stRow h_29 1 [strA t99] t101) fun h_67 =>
                  k30 h_67)
                (
                  k30 h_29)) fun k28 =>
              obind (fldP 10 v3) fun t68 =>
              obind (ldCell h_25 t68) fun v69 =>
              obind (avInt .i64 v69) fun t69 =>
              obind (nilC t0) fun t71 =>
              obind (fldP 3 t71) fun t72 =>
              obind (ldCell h_25 t72) fun v73 =>
              obind (avStr v73) fun t73 =>
              lett ((t69 : Int) == (lenS t73)) fun (t75 : Bool) =>
              ifB t75
              (
                obind (fldP 12 v3) fun t77 =>
                obind (ldCell h_25 t77) fun v78 =>
                obind (avStr v78) fun t78 =>
                obind (nilC t0) fun t81 =>
                obind (fldP 2 t81) fun t82 =>
                obind (ldCell h_25 t82) fun v83 =>
                obind (avInt .i64 v83) fun t83 =>
                obind (nilC t0) fun t85 =>
                obind (fldP 3 t85) fun t86 =>
                obind (ldCell h_25 t86) fun v87 =>
                obind (avStr v87) fun t87 =>
                lett (IntKind.i64.wrap (t83 - (lenS t87))) fun (t89 : Int) =>
                lett (decide ((lenS t78) ≤ t89)) fun (t90 : Bool) =>
                k28 t90 h_25)
              (
                k28 false h_25)) fun k24 =>
            ifB t51
            (
              obind (fldP 4 v3) fun t53 =>
              obind (ldCell h_23 t53) fun v54 =>
              obind (avInt .i64 v54) fun t54 =>
              obind (fldP 5 v3) fun t55 =>
              obind (ldCell h_23 t55) fun v56 =>
              obind (avInt .i64 v56) fun t56 =>
              obind (nilC t0) fun t58 =>
              obind (fldP 0 t58) fun t59 =>
              obind (stRow h_23 2 ([.int .i64 t54, .int .i64 t56] : List AV) t59) fun h_99 =>
              obind (fldP 11 v3) fun t61 =>
              obind (ldCell h_99 t61) fun v62 =>
              obind (avInt .i64 v62) fun t62 =>
              obind (nilC t0) fun t63 =>
              obind (fldP 2 t63) fun t64 =>
              obind (stRow h_99 1 [.int .i64 t62] t64) fun h_107 =>
              obind (nilC t0) fun t66 =>
              obind (fldP 3 t66) fun t67 =>
              obind (stRow h_107 1 [strA ([] : Bytes)] t67) fun h_111 =>
              k24 h_111)
            (
              k24 h_23)) fun k22 =>
          obind (fldP 4 v3) fun t25 =>
          obind (ldCell h_16 t25) fun v26 =>
          obind (avInt .i64 v26) fun t26 =>
          obind (nilC t0) fun t28 =>
          obind (fldP 0 t28) fun t29 =>
          obind (fldP 0 t29) fun t30 =>
          obind (ldCell h_16 t30) fun v31 =>
          obind (avInt .i64 v31) fun t31 =>
          lett ((t26 : Int) != t31) fun (t32 : Bool) =>
          ifB t32
          (
            k22 true h_16)
          (
            obind (fldP 5 v3) fun t34 =>
            obind (ldCell h_16 t34) fun v35 =>
            obind (avInt .i64 v35) fun t35 =>
            obind (nilC t0) fun t37 =>
            obind (fldP 0 t37) fun t38 =>
            obind (fldP 1 t38) fun t39 =>
            obind (ldCell h_16 t39) fun v40 =>
            obind (avInt .i64 v40) fun t40 =>
            lett ((t35 : Int) != t40) fun (t41 : Bool) =>
            ifB t41
            (
              k22 true h_16)
            (
              obind (fldP 11 v3) fun t44 =>
              obind (ldCell h_16 t44) fun v45 =>
              obind (avInt .i64 v45) fun t45 =>
              obind (nilC t0) fun t47 =>
              obind (fldP 2 t47) fun t48 =>
              obind (ldCell h_16 t48) fun v49 =>
              obind (avInt .i64 v49) fun t49 =>
              lett ((t45 : Int) != t49) fun (t50 : Bool) =>
              k22 t50 h_16)))) fun j24 =>
      ifB t19
      (
        j24 true h_13)
      (
        obind (fldP 4 v3) fun t21 =>
        obind (ldCell h_13 t21) fun v22 =>
        obind (avInt .i64 v22) fun t22 =>
        lett (decide (t22 < 1)) fun (t23 : Bool) =>
        j24 t23 h_13)) fun j19 =>
    ifB t14
    (
      j19 true h_10)
    (
      obind (fldP 10 v3) fun t16 =>
      obind (ldCell h_10 t16) fun v17 =>
      obind (avInt .i64 v17) fun t17 =>
      lett (decide (t17 < 0)) fun (t18 : Bool) =>
      j19 t18 h_10)) fun j14 =>
  ifB t9
  (
    j14 true h_2)
  (
    obind (fldP 11 v3) fun t11 =>
    obind (ldCell h_2 t11) fun v12 =>
    obind (avInt .i64 v12) fun t12 =>
    lett (decide (t12 > 262144)) fun (t13 : Bool) =>
    j14 t13 h_2)
set_option maxHeartbeats 4000000 in
set_option maxRecDepth 20000 in
theorem ref19_Inbox_Put_ok {call : CallF} (hc : SaysAll Try.prog call) {n : Nat} {t0 : AV} {t1 : List AV} {h : AHeap} {rR : ARes} {hR : AHeap} (hF : ref19_Inbox_Put call n t0 t1 h = some (rR, hR)) : Says Try.prog 18 [t0, .agg t1] h rR hR := by
  unfold ref19_Inbox_Put at hF
  refine says_of (fn := Try.f18) Try.func18 (c := codeOf Try.f18) (by kernel_rfl) (by kernel_rfl) (fun w0 m0 => ?_)
  refine W.weaken (l' := [(0, t0), (1, .agg t1)]) (Fr.sub_cons (by kernel_rfl) (Fr.sub_cons (by kernel_rfl) (Fr.sub_nil _))) ?_
  refine W.seqK (by kernel_rfl) (fun K1 n1 e1 r1 p1 => ?_)
  refine W.region (by kernel_rfl) ?_
  replace hF := outK_some hF; obtain ⟨v3, h_2, e3, hF⟩ := hF
  refine WL.val (d := (some 3)) (v := v3) (h' := h_2) (by kernel_rfl) (by kernel_rfl) (Eq.trans (by kernel_rfl) e3) ?_
  refine WL.val (d := (some 4)) (v := .int .i64 0) (h' := h_2) (by kernel_rfl) (by kernel_rfl) (by kernel_rfl) ?_
  refine WL.val (d := (some 5)) (v := strA ([] : Bytes)) (h' := h_2) (by kernel_rfl) (by kernel_rfl) (by kernel_rfl) ?_
  refine WL.val (d := (some 6)) (v := .bool false) (h' := h_2) (by kernel_rfl) (by kernel_rfl) (by kernel_rfl) ?_
  refine WL.nil (by kernel_rfl) ?_
  refine Go.weaken (l' := [(0, t0), (3, v3)]) (Fr.sub_cons (by kernel_rfl) (Fr.sub_cons (by kernel_rfl) (Fr.sub_nil _))) ?_
  refine n1 ?_
  refine W.seqK (by kernel_rfl) (fun K4 n4 e4 r4 p4 => ?_)
  refine W.seqK (by kernel_rfl) (fun K5 n5 e5 r5 p5 => ?_)
  refine W.region (by kernel_rfl) ?_
  replace hF := obind_some hF; obtain ⟨t7, e6, hF⟩ := hF
  refine WL.val (d := (some 7)) (v := t7) (h' := h_2) (by kernel_rfl) (by kernel_rfl) (Eq.trans (by kernel_rfl) (field_ptr (P := Try.prog) (h := h_2) (s := 35) (f := 11) (by kernel_rfl) e6)) ?_
  replace hF := obind_some hF; obtain ⟨v8, e7, hF⟩ := hF
  replace hF := obind_some hF; obtain ⟨t8, c8, hF⟩ := hF
  have c8 := avInt_some c8
  subst c8
  refine WL.val (d := (some 8)) (v := .int .i64 t8) (h' := h_2) (by kernel_rfl) (by kernel_rfl) (Eq.trans (by kernel_rfl) (load_cell (P := Try.prog) (h := h_2) (t := 3) (by kernel_rfl) e7)) ?_
  replace hF := lett_some hF; obtain ⟨t9, e9, hF⟩ := hF
  refine WL.val (d := (some 9)) (v := .bool t9) (h' := h_2) (by kernel_rfl) (by kernel_rfl) (val_of AV.bool e9 (by kernel_rfl)) ?_
  refine WL.val (d := (some 10)) (v := .bool t9) (h' := h_2) (by kernel_rfl) (by kernel_rfl) (by kernel_rfl) ?_
  replace hF := lett_some hF; obtain ⟨j14, e11, hF⟩ := hF
  have J12 : ∀ (t14 : Bool) (h_10 : AHeap), j14 t14 h_10 = some (rR, hR) → WL Try.prog w0 m0 (Func.ntmps Try.f18) (Code.ops (Code.p1 (Code.p1 (Code.p2 (codeOf Try.f18))))) 8 K5 [(0, t0), (3, v3), (14, .bool t14)] [] h_10 := by
    intro t14 h_10 hF
    rw [e11] at hF
    refine WL.val (d := (some 15)) (v := .bool t14) (h' := h_10) (by kernel_rfl) (by kernel_rfl) (by kernel_rfl) ?_
    replace hF := lett_some hF; obtain ⟨j19, e14, hF⟩ := hF
    have J15 : ∀ (t19 : Bool) (h_13 : AHeap), j19 t19 h_13 = some (rR, hR) → WL Try.prog w0 m0 (Func.ntmps Try.f18) (Code.ops (Code.p1 (Code.p1 (Code.p2 (codeOf Try.f18))))) 13 K5 [(0, t0), (3, v3), (19, .bool t19)] [] h_13 := by
      intro t19 h_13 hF
      rw [e14] at hF
      refine WL.val (d := (some 20)) (v := .bool t19) (h' := h_13) (by kernel_rfl) (by kernel_rfl) (by kernel_rfl) ?_
      replace hF := lett_some hF; obtain ⟨j24, e17, hF⟩ := hF
      have J18 : ∀ (t24 : Bool) (h_16 : AHeap), j24 t24 h_16 = some (rR, hR) → WL Try.prog w0 m0 (Func.ntmps Try.f18) (Code.ops (Code.p1 (Code.p1 (Code.p2 (codeOf Try.f18))))) 18 K5 [(0, t0), (3, v3), (24, .bool t24)] [] h_16 := by
        intro t24 h_16 hF
        rw [e17] at hF
        refine WL.nil (by kernel_rfl) ?_
        refine Go.weaken (l' := [(0, t0), (3, v3), (24, .bool t24)]) (Fr.sub_cons (by kernel_rfl) (Fr.sub_cons (by kernel_rfl) (Fr.sub_cons (by kernel_rfl) (Fr.sub_nil _)))) ?_
        refine n5 ?_
        cases t24 with
        | true =>
          replace hF := ifB_t hF
          refine W.cond_true (by kernel_rfl) (by kernel_rfl) ?_
          refine W.seqK (by kernel_rfl) (fun K19 n19 e19 r19 p19 => ?_)
          refine W.region (by kernel_rfl) ?_
          refine WL.val (d := (some 4)) (v := .int .i64 0) (h' := h_16) (by kernel_rfl) (by kernel_rfl) (by kernel_rfl) ?_
          refine WL.val (d := (some 5)) (v := strA ([] : Bytes)) (h' := h_16) (by kernel_rfl) (by kernel_rfl) (by kernel_rfl) ?_
          refine WL.val (d := (some 6)) (v := .bool false) (h' := h_16) (by kernel_rfl) (by kernel_rfl) (by kernel_rfl) ?_
          refine WL.nil (by kernel_rfl) ?_
          refine Go.weaken (l' := [(4, .int .i64 0), (5, strA ([] : Bytes)), (6, .bool false)]) (Fr.sub_cons (by kernel_rfl) (Fr.sub_cons (by kernel_rfl) (Fr.sub_cons (by kernel_rfl) (Fr.sub_nil _)))) ?_
          refine n19 ?_
          refine W.ret (by kernel_rfl) ?_
          refine r4 ?_
          obtain ⟨hF, hF2⟩ := ret_inj hF; subst hF; subst hF2
          exact leave_of (rs := [.tmp 4, .tmp 5, .tmp 6]) (vs := [.int .i64 0, strA ([] : Bytes), .bool false]) (by kernel_rfl) (res_tmp (by kernel_rfl) (res_tmp (by kernel_rfl) (res_tmp (by kernel_rfl) res_nil))) (by kernel_rfl)
        | false =>
          replace hF := ifB_f hF
          refine W.cond_false (by kernel_rfl) (by kernel_rfl) ?_
          refine W.skip (by kernel_rfl) ?_
          refine n4 ?_
          refine W.seqK (by kernel_rfl) (fun K20 n20 e20 r20 p20 => ?_)
          refine W.seqK (by kernel_rfl) (fun K21 n21 e21 r21 p21 => ?_)
          replace hF := lett_some hF; obtain ⟨k22, e22, hF⟩ := hF
          have J22 : ∀ (t51 : Bool) (h_23 : AHeap), k22 t51 h_23 = some (rR, hR) → Go w0 m0 (Func.ntmps Try.f18) (K21 .normal) [(0, t0), (3, v3), (51, .bool t51)] [] h_23 := by
            intro t51 h_23 hF
            rw [e22] at hF
            refine n21 ?_
            replace hF := lett_some hF; obtain ⟨k24, e24, hF⟩ := hF
            have J24 : ∀  (h_25 : AHeap), k24 h_25 = some (rR, hR) → Go w0 m0 (Func.ntmps Try.f18) (K20 .normal) [(0, t0), (3, v3)] [] h_25 := by
              intro  h_25 hF
              rw [e24] at hF
              refine n20 ?_
              refine W.seqK (by kernel_rfl) (fun K26 n26 e26 r26 p26 => ?_)
              refine W.seqK (by kernel_rfl) (fun K27 n27 e27 r27 p27 => ?_)
              replace hF := lett_some hF; obtain ⟨k28, e28, hF⟩ := hF
              have J28 : ∀ (t91 : Bool) (h_29 : AHeap), k28 t91 h_29 = some (rR, hR) → Go w0 m0 (Func.ntmps Try.f18) (K27 .normal) [(0, t0), (3, v3), (91, .bool t91)] [] h_29 := by
                intro t91 h_29 hF
                rw [e28] at hF
                refine n27 ?_
                replace hF := lett_some hF; obtain ⟨k30, e30, hF⟩ := hF
                have J30 : ∀  (h_31 : AHeap), k30 h_31 = some (rR, hR) → Go w0 m0 (Func.ntmps Try.f18) (K26 .normal) [(0, t0)] [] h_31 := by
                  intro  h_31 hF
                  rw [e30] at hF
                  refine n26 ?_
                  refine W.seqK (by kernel_rfl) (fun K32 n32 e32 r32 p32 => ?_)
                  refine W.seqK (by kernel_rfl) (fun K33 n33 e33 r33 p33 => ?_)
                  refine W.draw (by kernel_rfl) (hc.ok w0) (plan := [0, 1, 2, 3, 4, 5, 6, 7, 8, 9]) (by kernel_rfl) (by kernel_rfl) (by kernel_rfl) ?_
                  refine WD.val (d := (some 102)) (v := t0) (h' := h_31) (by kernel_rfl) (by kernel_rfl) (by kernel_rfl) (k := 0) (by kernel_rfl) (fun e => absurd e (by decide)) (by decide) ?_
                  replace hF := obind_some hF; obtain ⟨t103, e34, hF⟩ := hF
                  refine WD.val (d := (some 103)) (v := t103) (h' := h_31) (by kernel_rfl) (by kernel_rfl) (Eq.trans (by kernel_rfl) (nil_chk (h := h_31) e34)) (k := 0) (by kernel_rfl) (fun e => absurd e (by decide)) (by decide) ?_
                  replace hF := obind_some hF; obtain ⟨t104, e35, hF⟩ := hF
                  refine WD.val (d := (some 104)) (v := t104) (h' := h_31) (by kernel_rfl) (by kernel_rfl) (Eq.trans (by kernel_rfl) (field_ptr (P := Try.prog) (h := h_31) (s := 50) (f := 2) (by kernel_rfl) e35)) (k := 0) (by kernel_rfl) (fun e => absurd e (by decide)) (by decide) ?_
                  replace hF := obind_some hF; obtain ⟨v105, e36, hF⟩ := hF
                  replace hF := obind_some hF; obtain ⟨t105, c37, hF⟩ := hF
                  have c37 := avStr_some c37
                  subst c37
                  refine WD.val (d := (some 105)) (v := strA t105) (h' := h_31) (by kernel_rfl) (by kernel_rfl) (Eq.trans (by kernel_rfl) (load_cell (P := Try.prog) (h := h_31) (t := 9) (by kernel_rfl) e36)) (k := 1) (by kernel_rfl) (fun e => absurd e (by decide)) (by decide) ?_
                  refine WD.val (d := (some 106)) (v := .int .i64 (lenS t105)) (h' := h_31) (by kernel_rfl) (by kernel_rfl) (by kernel_rfl) (k := 0) (by kernel_rfl) (fun e => absurd e (by decide)) (by decide) ?_
                  refine WD.val (d := (some 107)) (v := t0) (h' := h_31) (by kernel_rfl) (by kernel_rfl) (by kernel_rfl) (k := 0) (by kernel_rfl) (fun e => absurd e (by decide)) (by decide) ?_
                  replace hF := obind_some hF; obtain ⟨t108, e38, hF⟩ := hF
                  refine WD.val (d := (some 108)) (v := t108) (h' := h_31) (by kernel_rfl) (by kernel_rfl) (Eq.trans (by kernel_rfl) (nil_chk (h := h_31) e38)) (k := 0) (by kernel_rfl) (fun e => absurd e (by decide)) (by decide) ?_
                  replace hF := obind_some hF; obtain ⟨t109, e39, hF⟩ := hF
                  refine WD.val (d := (some 109)) (v := t109) (h' := h_31) (by kernel_rfl) (by kernel_rfl) (Eq.trans (by kernel_rfl) (field_ptr (P := Try.prog) (h := h_31) (s := 50) (f := 1) (by kernel_rfl) e39)) (k := 0) (by kernel_rfl) (fun e => absurd e (by decide)) (by decide) ?_
                  replace hF := obind_some hF; obtain ⟨v110, e40, hF⟩ := hF
                  replace hF := obind_some hF; obtain ⟨t110, c41, hF⟩ := hF
                  have c41 := avInt_some c41
                  subst c41
                  refine WD.val (d := (some 110)) (v := .int .i64 t110) (h' := h_31) (by kernel_rfl) (by kernel_rfl) (Eq.trans (by kernel_rfl) (load_cell (P := Try.prog) (h := h_31) (t := 3) (by kernel_rfl) e40)) (k := 1) (by kernel_rfl) (fun e => absurd e (by decide)) (by decide) ?_
                  replace hF := lett_some hF; obtain ⟨t111, e42, hF⟩ := hF
                  refine WD.val (d := (some 111)) (v := .bool t111) (h' := h_31) (by kernel_rfl) (by kernel_rfl) (val_of AV.bool e42 (by kernel_rfl)) (k := 0) (by kernel_rfl) (fun e => absurd e (by decide)) (by decide) ?_
                  refine WD.nil ?_
                  refine Go.weaken (l' := [(0, t0), (111, .bool t111)]) (Fr.sub_cons (by kernel_rfl) (Fr.sub_cons (by kernel_rfl) (Fr.sub_nil _))) ?_
                  refine n33 ?_
                  cases t111 with
                  | true =>
                    replace hF := ifB_t hF
                    refine W.cond_true (by kernel_rfl) (by kernel_rfl) ?_
                    refine W.seqK (by kernel_rfl) (fun K43 n43 e43 r43 p43 => ?_)
                    refine W.draw (by kernel_rfl) (hc.ok w0) (plan := [0, 1, 2, 3, 4, 5, 6, 7, 8, 9, 10]) (by kernel_rfl) (by kernel_rfl) (by kernel_rfl) ?_
                    refine WD.val (d := (some 112)) (v := t0) (h' := h_31) (by kernel_rfl) (by kernel_rfl) (by kernel_rfl) (k := 0) (by kernel_rfl) (fun e => absurd e (by decide)) (by decide) ?_
                    replace hF := obind_some hF; obtain ⟨t113, e44, hF⟩ := hF
                    refine WD.val (d := (some 113)) (v := t113) (h' := h_31) (by kernel_rfl) (by kernel_rfl) (Eq.trans (by kernel_rfl) (nil_chk (h := h_31) e44)) (k := 0) (by kernel_rfl) (fun e => absurd e (by decide)) (by decide) ?_
                    replace hF := obind_some hF; obtain ⟨t114, e45, hF⟩ := hF
                    refine WD.val (d := (some 114)) (v := t114) (h' := h_31) (by kernel_rfl) (by kernel_rfl) (Eq.trans (by kernel_rfl) (field_ptr (P := Try.prog) (h := h_31) (s := 50) (f := 1) (by kernel_rfl) e45)) (k := 0) (by kernel_rfl) (fun e => absurd e (by decide)) (by decide) ?_
                    replace hF := obind_some hF; obtain ⟨v115, e46, hF⟩ := hF
                    replace hF := obind_some hF; obtain ⟨t115, c47, hF⟩ := hF
                    have c47 := avInt_some c47
                    subst c47
                    refine WD.val (d := (some 115)) (v := .int .i64 t115) (h' := h_31) (by kernel_rfl) (by kernel_rfl) (Eq.trans (by kernel_rfl) (load_cell (P := Try.prog) (h := h_31) (t := 3) (by kernel_rfl) e46)) (k := 1) (by kernel_rfl) (fun e => absurd e (by decide)) (by decide) ?_
                    refine WD.val (d := (some 116)) (v := t0) (h' := h_31) (by kernel_rfl) (by kernel_rfl) (by kernel_rfl) (k := 0) (by kernel_rfl) (fun e => absurd e (by decide)) (by decide) ?_
                    replace hF := obind_some hF; obtain ⟨t117, e48, hF⟩ := hF
                    refine WD.val (d := (some 117)) (v := t117) (h' := h_31) (by kernel_rfl) (by kernel_rfl) (Eq.trans (by kernel_rfl) (nil_chk (h := h_31) e48)) (k := 0) (by kernel_rfl) (fun e => absurd e (by decide)) (by decide) ?_
                    replace hF := obind_some hF; obtain ⟨t118, e49, hF⟩ := hF
                    refine WD.val (d := (some 118)) (v := t118) (h' := h_31) (by kernel_rfl) (by kernel_rfl) (Eq.trans (by kernel_rfl) (field_ptr (P := Try.prog) (h := h_31) (s := 50) (f := 2) (by kernel_rfl) e49)) (k := 0) (by kernel_rfl) (fun e => absurd e (by decide)) (by decide) ?_
                    replace hF := obind_some hF; obtain ⟨v119, e50, hF⟩ := hF
                    replace hF := obind_some hF; obtain ⟨t119, c51, hF⟩ := hF
                    have c51 := avStr_some c51
                    subst c51
                    refine WD.val (d := (some 119)) (v := strA t119) (h' := h_31) (by kernel_rfl) (by kernel_rfl) (Eq.trans (by kernel_rfl) (load_cell (P := Try.prog) (h := h_31) (t := 9) (by kernel_rfl) e50)) (k := 1) (by kernel_rfl) (fun e => absurd e (by decide)) (by decide) ?_
                    refine WD.val (d := (some 4)) (v := .int .i64 t115) (h' := h_31) (by kernel_rfl) (by kernel_rfl) (by kernel_rfl) (k := 0) (by kernel_rfl) (fun e => absurd e (by decide)) (by decide) ?_
                    refine WD.val (d := (some 5)) (v := strA t119) (h' := h_31) (by kernel_rfl) (by kernel_rfl) (by kernel_rfl) (k := 0) (by kernel_rfl) (fun e => absurd e (by decide)) (by decide) ?_
                    refine WD.val (d := (some 6)) (v := .bool true) (h' := h_31) (by kernel_rfl) (by kernel_rfl) (by kernel_rfl) (k := 0) (by kernel_rfl) (fun e => absurd e (by decide)) (by decide) ?_
                    refine WD.nil ?_
                    refine Go.weaken (l' := [(4, .int .i64 t115), (5, strA t119), (6, .bool true)]) (Fr.sub_cons (by kernel_rfl) (Fr.sub_cons (by kernel_rfl) (Fr.sub_cons (by kernel_rfl) (Fr.sub_nil _)))) ?_
                    refine n43 ?_
                    refine W.ret (by kernel_rfl) ?_
                    refine r32 ?_
                    obtain ⟨hF, hF2⟩ := ret_inj hF; subst hF; subst hF2
                    exact leave_of (rs := [.tmp 4, .tmp 5, .tmp 6]) (vs := [.int .i64 t115, strA t119, .bool true]) (by kernel_rfl) (res_tmp (by kernel_rfl) (res_tmp (by kernel_rfl) (res_tmp (by kernel_rfl) res_nil))) (by kernel_rfl)
                  | false =>
                    replace hF := ifB_f hF
                    refine W.cond_false (by kernel_rfl) (by kernel_rfl) ?_
                    refine W.skip (by kernel_rfl) ?_
                    refine n32 ?_
                    refine W.seqK (by kernel_rfl) (fun K52 n52 e52 r52 p52 => ?_)
                    refine W.region (by kernel_rfl) ?_
                    refine WL.val (d := (some 120)) (v := t0) (h' := h_31) (by kernel_rfl) (by kernel_rfl) (by kernel_rfl) ?_
                    replace hF := obind_some hF; obtain ⟨t121, e53, hF⟩ := hF
                    refine WL.val (d := (some 121)) (v := t121) (h' := h_31) (by kernel_rfl) (by kernel_rfl) (Eq.trans (by kernel_rfl) (nil_chk (h := h_31) e53)) ?_
                    replace hF := obind_some hF; obtain ⟨t122, e54, hF⟩ := hF
                    refine WL.val (d := (some 122)) (v := t122) (h' := h_31) (by kernel_rfl) (by kernel_rfl) (Eq.trans (by kernel_rfl) (field_ptr (P := Try.prog) (h := h_31) (s := 50) (f := 2) (by kernel_rfl) e54)) ?_
                    replace hF := obind_some hF; obtain ⟨v123, e55, hF⟩ := hF
                    replace hF := obind_some hF; obtain ⟨t123, c56, hF⟩ := hF
                    have c56 := avStr_some c56
                    subst c56
                    refine WL.val (d := (some 123)) (v := strA t123) (h' := h_31) (by kernel_rfl) (by kernel_rfl) (Eq.trans (by kernel_rfl) (load_cell (P := Try.prog) (h := h_31) (t := 9) (by kernel_rfl) e55)) ?_
                    refine WL.val (d := (some 124)) (v := .int .i64 (lenS t123)) (h' := h_31) (by kernel_rfl) (by kernel_rfl) (by kernel_rfl) ?_
                    refine WL.val (d := (some 4)) (v := .int .i64 (lenS t123)) (h' := h_31) (by kernel_rfl) (by kernel_rfl) (by kernel_rfl) ?_
                    refine WL.val (d := (some 5)) (v := strA ([] : Bytes)) (h' := h_31) (by kernel_rfl) (by kernel_rfl) (by kernel_rfl) ?_
                    refine WL.val (d := (some 6)) (v := .bool false) (h' := h_31) (by kernel_rfl) (by kernel_rfl) (by kernel_rfl) ?_
                    refine WL.nil (by kernel_rfl) ?_
                    refine Go.weaken (l' := [(4, .int .i64 (lenS t123)), (5, strA ([] : Bytes)), (6, .bool false)]) (Fr.sub_cons (by kernel_rfl) (Fr.sub_cons (by kernel_rfl) (Fr.sub_cons (by kernel_rfl) (Fr.sub_nil _)))) ?_
                    refine n52 ?_
                    refine W.ret (by kernel_rfl) ?_
                    obtain ⟨hF, hF2⟩ := ret_inj hF; subst hF; subst hF2
                    exact leave_of (rs := [.tmp 4, .tmp 5, .tmp 6]) (vs := [.int .i64 (lenS t123), strA ([] : Bytes), .bool false]) (by kernel_rfl) (res_tmp (by kernel_rfl) (res_tmp (by kernel_rfl) (res_tmp (by kernel_rfl) res_nil))) (by kernel_rfl)
                cases t91 with
                | true =>
                  replace hF := ifB_t hF
                  refine W.cond_true (by kernel_rfl) (by kernel_rfl) ?_
                  refine W.draw (by kernel_rfl) (hc.ok w0) (plan := [0, 1, 2, 3, 4, 5, 6, 7, 8, 9, 10]) (by kernel_rfl) (by kernel_rfl) (by kernel_rfl) ?_
                  refine WD.val (d := (some 92)) (v := t0) (h' := h_29) (by kernel_rfl) (by kernel_rfl) (by kernel_rfl) (k := 0) (by kernel_rfl) (fun e => absurd e (by decide)) (by decide) ?_
                  refine WD.val (d := (some 93)) (v := t0) (h' := h_29) (by kernel_rfl) (by kernel_rfl) (by kernel_rfl) (k := 0) (by kernel_rfl) (fun e => absurd e (by decide)) (by decide) ?_
                  replace hF := obind_some hF; obtain ⟨t94, e57, hF⟩ := hF
                  refine WD.val (d := (some 94)) (v := t94) (h' := h_29) (by kernel_rfl) (by kernel_rfl) (Eq.trans (by kernel_rfl) (nil_chk (h := h_29) e57)) (k := 0) (by kernel_rfl) (fun e => absurd e (by decide)) (by decide) ?_
                  replace hF := obind_some hF; obtain ⟨t95, e58, hF⟩ := hF
                  refine WD.val (d := (some 95)) (v := t95) (h' := h_29) (by kernel_rfl) (by kernel_rfl) (Eq.trans (by kernel_rfl) (field_ptr (P := Try.prog) (h := h_29) (s := 50) (f := 2) (by kernel_rfl) e58)) (k := 0) (by kernel_rfl) (fun e => absurd e (by decide)) (by decide) ?_
                  replace hF := obind_some hF; obtain ⟨v96, e59, hF⟩ := hF
                  replace hF := obind_some hF; obtain ⟨t96, c60, hF⟩ := hF
                  have c60 := avStr_some c60
                  subst c60
                  refine WD.val (d := (some 96)) (v := strA t96) (h' := h_29) (by kernel_rfl) (by kernel_rfl) (Eq.trans (by kernel_rfl) (load_cell (P := Try.prog) (h := h_29) (t := 9) (by kernel_rfl) e59)) (k := 1) (by kernel_rfl) (fun e => absurd e (by decide)) (by decide) ?_
                  replace hF := obind_some hF; obtain ⟨t97, e61, hF⟩ := hF
                  refine WD.val (d := (some 97)) (v := t97) (h' := h_29) (by kernel_rfl) (by kernel_rfl) (Eq.trans (by kernel_rfl) (field_ptr (P := Try.prog) (h := h_29) (s := 35) (f := 12) (by kernel_rfl) e61)) (k := 0) (by kernel_rfl) (fun e => absurd e (by decide)) (by decide) ?_
                  replace hF := obind_some hF; obtain ⟨v98, e62, hF⟩ := hF
                  replace hF := obind_some hF; obtain ⟨t98, c63, hF⟩ := hF
                  have c63 := avStr_some c63
                  subst c63
                  refine WD.val (d := (some 98)) (v := strA t98) (h' := h_29) (by kernel_rfl) (by kernel_rfl) (Eq.trans (by kernel_rfl) (load_cell (P := Try.prog) (h := h_29) (t := 9) (by kernel_rfl) e62)) (k := 1) (by kernel_rfl) (fun e => absurd e (by decide)) (by decide) ?_
                  replace hF := obind_some hF; obtain ⟨t99, e64, hF⟩ := hF
                  refine WD.val (d := (some 99)) (v := strA t99) (h' := h_29) (by kernel_rfl) (by kernel_rfl) (Eq.trans (by kernel_rfl) (add_str (P := Try.prog) (h := h_29) (t := 9) (lit := false) e64)) (k := 0) (by kernel_rfl) (fun e => absurd e (by decide)) (by decide) ?_
                  replace hF := obind_some hF; obtain ⟨t100, e65, hF⟩ := hF
                  refine WD.val (d := (some 100)) (v := t100) (h' := h_29) (by kernel_rfl) (by kernel_rfl) (Eq.trans (by kernel_rfl) (nil_chk (h := h_29) e65)) (k := 0) (by kernel_rfl) (fun e => absurd e (by decide)) (by decide) ?_
                  replace hF := obind_some hF; obtain ⟨t101, e66, hF⟩ := hF
                  refine WD.val (d := (some 101)) (v := t101) (h' := h_29) (by kernel_rfl) (by kernel_rfl) (Eq.trans (by kernel_rfl) (field_ptr (P := Try.prog) (h := h_29) (s := 50) (f := 2) (by kernel_rfl) e66)) (k := 0) (by kernel_rfl) (fun e => absurd e (by decide)) (by decide) ?_
                  replace hF := obind_some hF; obtain ⟨h_67, e68, hF⟩ := hF
                  refine WD.eff (h' := h_67) (by kernel_rfl) (by kernel_rfl) (Eq.trans (by kernel_rfl) (store_row (P := Try.prog) (h := h_29) (t := 9) (v := (strA t99)) (by kernel_rfl) (by kernel_rfl) e68)) (k := 2) (by kernel_rfl) (fun _ => (by kernel_rfl)) (by decide) ?_
                  refine WD.nil ?_
                  refine Go.weaken (l' := [(0, t0)]) (Fr.sub_cons (by kernel_rfl) (Fr.sub_nil _)) ?_
                  exact Go.weaken (Fr.sub_cons (by kernel_rfl) (Fr.sub_nil _)) (J30 _ hF)
                | false =>
                  replace hF := ifB_f hF
                  refine W.cond_false (by kernel_rfl) (by kernel_rfl) ?_
                  refine W.skip (by kernel_rfl) ?_
                  exact Go.weaken (Fr.sub_cons (by kernel_rfl) (Fr.sub_nil _)) (J30 _ hF)
              refine W.draw (by kernel_rfl) (hc.ok w0) (plan := [0, 1, 2, 3, 4, 5, 6, 7, 8, 9, 10, 11, 12, 13, 14, 15, 16, 17, 18, 19, 20, 21, 22, 23]) (by kernel_rfl) (by kernel_rfl) (by kernel_rfl) ?_
              replace hF := obind_some hF; obtain ⟨t68, e69, hF⟩ := hF
              refine WD.val (d := (some 68)) (v := t68) (h' := h_25) (by kernel_rfl) (by kernel_rfl) (Eq.trans (by kernel_rfl) (field_ptr (P := Try.prog) (h := h_25) (s := 35) (f := 10) (by kernel_rfl) e69)) (k := 0) (by kernel_rfl) (fun e => absurd e (by decide)) (by decide) ?_
              replace hF := obind_some hF; obtain ⟨v69, e70, hF⟩ := hF
              replace hF := obind_some hF; obtain ⟨t69, c71, hF⟩ := hF
              have c71 := avInt_some c71
              subst c71
              refine WD.val (d := (some 69)) (v := .int .i64 t69) (h' := h_25) (by kernel_rfl) (by kernel_rfl) (Eq.trans (by kernel_rfl) (load_cell (P := Try.prog) (h := h_25) (t := 3) (by kernel_rfl) e70)) (k := 1) (by kernel_rfl) (fun e => absurd e (by decide)) (by decide) ?_
              refine WD.val (d := (some 70)) (v := t0) (h' := h_25) (by kernel_rfl) (by kernel_rfl) (by kernel_rfl) (k := 0) (by kernel_rfl) (fun e => absurd e (by decide)) (by decide) ?_
              replace hF := obind_some hF; obtain ⟨t71, e72, hF⟩ := hF
              refine WD.val (d := (some 71)) (v := t71) (h' := h_25) (by kernel_rfl) (by kernel_rfl) (Eq.trans (by kernel_rfl) (nil_chk (h := h_25) e72)) (k := 0) (by kernel_rfl) (fun e => absurd e (by decide)) (by decide) ?_
              replace hF := obind_some hF; obtain ⟨t72, e73, hF⟩ := hF
              refine WD.val (d := (some 72)) (v := t72) (h' := h_25) (by kernel_rfl) (by kernel_rfl) (Eq.trans (by kernel_rfl) (field_ptr (P := Try.prog) (h := h_25) (s := 50) (f := 2) (by kernel_rfl) e73)) (k := 0) (by kernel_rfl) (fun e => absurd e (by decide)) (by decide) ?_
              replace hF := obind_some hF; obtain ⟨v73, e74, hF⟩ := hF
              replace hF := obind_some hF; obtain ⟨t73, c75, hF⟩ := hF
              have c75 := avStr_some c75
              subst c75
              refine WD.val (d := (some 73)) (v := strA t73) (h' := h_25) (by kernel_rfl) (by kernel_rfl) (Eq.trans (by kernel_rfl) (load_cell (P := Try.prog) (h := h_25) (t := 9) (by kernel_rfl) e74)) (k := 1) (by kernel_rfl) (fun e => absurd e (by decide)) (by decide) ?_
              refine WD.val (d := (some 74)) (v := .int .i64 (lenS t73)) (h' := h_25) (by kernel_rfl) (by kernel_rfl) (by kernel_rfl) (k := 0) (by kernel_rfl) (fun e => absurd e (by decide)) (by decide) ?_
              replace hF := lett_some hF; obtain ⟨t75, e76, hF⟩ := hF
              refine WD.val (d := (some 75)) (v := .bool t75) (h' := h_25) (by kernel_rfl) (by kernel_rfl) (val_of AV.bool e76 (by kernel_rfl)) (k := 0) (by kernel_rfl) (fun e => absurd e (by decide)) (by decide) ?_
              refine WD.val (d := (some 76)) (v := .bool t75) (h' := h_25) (by kernel_rfl) (by kernel_rfl) (by kernel_rfl) (k := 0) (by kernel_rfl) (fun e => absurd e (by decide)) (by decide) ?_
              cases t75 with
              | true =>
                replace hF := ifB_t hF
                replace hF := obind_some hF; obtain ⟨t77, e77, hF⟩ := hF
                refine WD.val (d := (some 77)) (v := t77) (h' := h_25) (by kernel_rfl) (by kernel_rfl) (Eq.trans (by kernel_rfl) (field_ptr (P := Try.prog) (h := h_25) (s := 35) (f := 12) (by kernel_rfl) e77)) (k := 0) (by kernel_rfl) (fun e => absurd e (by decide)) (by decide) ?_
                replace hF := obind_some hF; obtain ⟨v78, e78, hF⟩ := hF
                replace hF := obind_some hF; obtain ⟨t78, c79, hF⟩ := hF
                have c79 := avStr_some c79
                subst c79
                refine WD.val (d := (some 78)) (v := strA t78) (h' := h_25) (by kernel_rfl) (by kernel_rfl) (Eq.trans (by kernel_rfl) (load_cell (P := Try.prog) (h := h_25) (t := 9) (by kernel_rfl) e78)) (k := 1) (by kernel_rfl) (fun e => absurd e (by decide)) (by decide) ?_
                refine WD.val (d := (some 79)) (v := .int .i64 (lenS t78)) (h' := h_25) (by kernel_rfl) (by kernel_rfl) (by kernel_rfl) (k := 0) (by kernel_rfl) (fun e => absurd e (by decide)) (by decide) ?_
                refine WD.val (d := (some 80)) (v := t0) (h' := h_25) (by kernel_rfl) (by kernel_rfl) (by kernel_rfl) (k := 0) (by kernel_rfl) (fun e => absurd e (by decide)) (by decide) ?_
                replace hF := obind_some hF; obtain ⟨t81, e80, hF⟩ := hF
                refine WD.val (d := (some 81)) (v := t81) (h' := h_25) (by kernel_rfl) (by kernel_rfl) (Eq.trans (by kernel_rfl) (nil_chk (h := h_25) e80)) (k := 0) (by kernel_rfl) (fun e => absurd e (by decide)) (by decide) ?_
                replace hF := obind_some hF; obtain ⟨t82, e81, hF⟩ := hF
                refine WD.val (d := (some 82)) (v := t82) (h' := h_25) (by kernel_rfl) (by kernel_rfl) (Eq.trans (by kernel_rfl) (field_ptr (P := Try.prog) (h := h_25) (s := 50) (f := 1) (by kernel_rfl) e81)) (k := 0) (by kernel_rfl) (fun e => absurd e (by decide)) (by decide) ?_
                replace hF := obind_some hF; obtain ⟨v83, e82, hF⟩ := hF
                replace hF := obind_some hF; obtain ⟨t83, c83, hF⟩ := hF
                have c83 := avInt_some c83
                subst c83
                refine WD.val (d := (some 83)) (v := .int .i64 t83) (h' := h_25) (by kernel_rfl) (by kernel_rfl) (Eq.trans (by kernel_rfl) (load_cell (P := Try.prog) (h := h_25) (t := 3) (by kernel_rfl) e82)) (k := 1) (by kernel_rfl) (fun e => absurd e (by decide)) (by decide) ?_
                refine WD.val (d := (some 84)) (v := t0) (h' := h_25) (by kernel_rfl) (by kernel_rfl) (by kernel_rfl) (k := 0) (by kernel_rfl) (fun e => absurd e (by decide)) (by decide) ?_
                replace hF := obind_some hF; obtain ⟨t85, e84, hF⟩ := hF
                refine WD.val (d := (some 85)) (v := t85) (h' := h_25) (by kernel_rfl) (by kernel_rfl) (Eq.trans (by kernel_rfl) (nil_chk (h := h_25) e84)) (k := 0) (by kernel_rfl) (fun e => absurd e (by decide)) (by decide) ?_
                replace hF := obind_some hF; obtain ⟨t86, e85, hF⟩ := hF
                refine WD.val (d := (some 86)) (v := t86) (h' := h_25) (by kernel_rfl) (by kernel_rfl) (Eq.trans (by kernel_rfl) (field_ptr (P := Try.prog) (h := h_25) (s := 50) (f := 2) (by kernel_rfl) e85)) (k := 0) (by kernel_rfl) (fun e => absurd e (by decide)) (by decide) ?_
                replace hF := obind_some hF; obtain ⟨v87, e86, hF⟩ := hF
                replace hF := obind_some hF; obtain ⟨t87, c87, hF⟩ := hF
                have c87 := avStr_some c87
                subst c87
                refine WD.val (d := (some 87)) (v := strA t87) (h' := h_25) (by kernel_rfl) (by kernel_rfl) (Eq.trans (by kernel_rfl) (load_cell (P := Try.prog) (h := h_25) (t := 9) (by kernel_rfl) e86)) (k := 1) (by kernel_rfl) (fun e => absurd e (by decide)) (by decide) ?_
                refine WD.val (d := (some 88)) (v := .int .i64 (lenS t87)) (h' := h_25) (by kernel_rfl) (by kernel_rfl) (by kernel_rfl) (k := 0) (by kernel_rfl) (fun e => absurd e (by decide)) (by decide) ?_
                replace hF := lett_some hF; obtain ⟨t89, e88, hF⟩ := hF
                refine WD.val (d := (some 89)) (v := .int .i64 t89) (h' := h_25) (by kernel_rfl) (by kernel_rfl) (val_of (AV.int .i64) e88 (by kernel_rfl)) (k := 0) (by kernel_rfl) (fun e => absurd e (by decide)) (by decide) ?_
                replace hF := lett_some hF; obtain ⟨t90, e89, hF⟩ := hF
                refine WD.val (d := (some 90)) (v := .bool t90) (h' := h_25) (by kernel_rfl) (by kernel_rfl) (val_of AV.bool e89 (by kernel_rfl)) (k := 0) (by kernel_rfl) (fun e => absurd e (by decide)) (by decide) ?_
                refine WD.val (d := (some 91)) (v := .bool t90) (h' := h_25) (by kernel_rfl) (by kernel_rfl) (by kernel_rfl) (k := 0) (by kernel_rfl) (fun e => absurd e (by decide)) (by decide) ?_
                refine WD.nil ?_
                exact Go.weaken (Fr.sub_cons (by kernel_rfl) (Fr.sub_cons (by kernel_rfl) (Fr.sub_cons (by kernel_rfl) (Fr.sub_nil _)))) (J28 _ _ hF)
              | false =>
                replace hF := ifB_f hF
                refine WD.not (d := (some 77)) (by kernel_rfl) (by kernel_rfl) (k := 0) (by kernel_rfl) (fun e => absurd e (by decide)) (by decide) ?_
                refine WD.not (d := (some 78)) (by kernel_rfl) (by kernel_rfl) (k := 1) (by kernel_rfl) (fun e => absurd e (by decide)) (by decide) ?_
                refine WD.not (d := (some 79)) (by kernel_rfl) (by kernel_rfl) (k := 0) (by kernel_rfl) (fun e => absurd e (by decide)) (by decide) ?_
                refine WD.not (d := (some 80)) (by kernel_rfl) (by kernel_rfl) (k := 0) (by kernel_rfl) (fun e => absurd e (by decide)) (by decide) ?_
                refine WD.not (d := (some 81)) (by kernel_rfl) (by kernel_rfl) (k := 0) (by kernel_rfl) (fun e => absurd e (by decide)) (by decide) ?_
                refine WD.not (d := (some 82)) (by kernel_rfl) (by kernel_rfl) (k := 0) (by kernel_rfl) (fun e => absurd e (by decide)) (by decide) ?_
                refine WD.not (d := (some 83)) (by kernel_rfl) (by kernel_rfl) (k := 1) (by kernel_rfl) (fun e => absurd e (by decide)) (by decide) ?_
                refine WD.not (d := (some 84)) (by kernel_rfl) (by kernel_rfl) (k := 0) (by kernel_rfl) (fun e => absurd e (by decide)) (by decide) ?_
                refine WD.not (d := (some 85)) (by kernel_rfl) (by kernel_rfl) (k := 0) (by kernel_rfl) (fun e => absurd e (by decide)) (by decide) ?_
                refine WD.not (d := (some 86)) (by kernel_rfl) (by kernel_rfl) (k := 0) (by kernel_rfl) (fun e => absurd e (by decide)) (by decide) ?_
                refine WD.not (d := (some 87)) (by kernel_rfl) (by kernel_rfl) (k := 1) (by kernel_rfl) (fun e => absurd e (by decide)) (by decide) ?_
                refine WD.not (d := (some 88)) (by kernel_rfl) (by kernel_rfl) (k := 0) (by kernel_rfl) (fun e => absurd e (by decide)) (by decide) ?_
                refine WD.not (d := (some 89)) (by kernel_rfl) (by kernel_rfl) (k := 0) (by kernel_rfl) (fun e => absurd e (by decide)) (by decide) ?_
                refine WD.not (d := (some 90)) (by kernel_rfl) (by kernel_rfl) (k := 0) (by kernel_rfl) (fun e => absurd e (by decide)) (by decide) ?_
                refine WD.val (d := (some 91)) (v := .bool false) (h' := h_25) (by kernel_rfl) (by kernel_rfl) (by kernel_rfl) (k := 0) (by kernel_rfl) (fun e => absurd e (by decide)) (by decide) ?_
                refine WD.nil ?_
                exact Go.weaken (Fr.sub_cons (by kernel_rfl) (Fr.sub_cons (by kernel_rfl) (Fr.sub_cons (by kernel_rfl) (Fr.sub_nil _)))) (J28 _ _ hF)
            cases t51 with
            | true =>
              replace hF := ifB_t hF
              refine W.cond_true (by kernel_rfl) (by kernel_rfl) ?_
              refine W.seqK (by kernel_rfl) (fun K90 n90 e90 r90 p90 => ?_)
              refine W.region (by kernel_rfl) ?_
              refine WL.val (d := (some 52)) (v := t0) (h' := h_23) (by kernel_rfl) (by kernel_rfl) (by kernel_rfl) ?_
              replace hF := obind_some hF; obtain ⟨t53, e91, hF⟩ := hF
              refine WL.val (d := (some 53)) (v := t53) (h' := h_23) (by kernel_rfl) (by kernel_rfl) (Eq.trans (by kernel_rfl) (field_ptr (P := Try.prog) (h := h_23) (s := 35) (f := 4) (by kernel_rfl) e91)) ?_
              replace hF := obind_some hF; obtain ⟨v54, e92, hF⟩ := hF
              replace hF := obind_some hF; obtain ⟨t54, c93, hF⟩ := hF
              have c93 := avInt_some c93
              subst c93
              refine WL.val (d := (some 54)) (v := .int .i64 t54) (h' := h_23) (by kernel_rfl) (by kernel_rfl) (Eq.trans (by kernel_rfl) (load_cell (P := Try.prog) (h := h_23) (t := 3) (by kernel_rfl) e92)) ?_
              replace hF := obind_some hF; obtain ⟨t55, e94, hF⟩ := hF
              refine WL.val (d := (some 55)) (v := t55) (h' := h_23) (by kernel_rfl) (by kernel_rfl) (Eq.trans (by kernel_rfl) (field_ptr (P := Try.prog) (h := h_23) (s := 35) (f := 5) (by kernel_rfl) e94)) ?_
              replace hF := obind_some hF; obtain ⟨v56, e95, hF⟩ := hF
              replace hF := obind_some hF; obtain ⟨t56, c96, hF⟩ := hF
              have c96 := avInt_some c96
              subst c96
              refine WL.val (d := (some 56)) (v := .int .i64 t56) (h' := h_23) (by kernel_rfl) (by kernel_rfl) (Eq.trans (by kernel_rfl) (load_cell (P := Try.prog) (h := h_23) (t := 3) (by kernel_rfl) e95)) ?_
              refine WL.val (d := (some 57)) (v := .agg ([.int .i64 t54, .int .i64 t56] : List AV)) (h' := h_23) (by kernel_rfl) (by kernel_rfl) (by kernel_rfl) ?_
              replace hF := obind_some hF; obtain ⟨t58, e97, hF⟩ := hF
              refine WL.val (d := (some 58)) (v := t58) (h' := h_23) (by kernel_rfl) (by kernel_rfl) (Eq.trans (by kernel_rfl) (nil_chk (h := h_23) e97)) ?_
              replace hF := obind_some hF; obtain ⟨t59, e98, hF⟩ := hF
              refine WL.val (d := (some 59)) (v := t59) (h' := h_23) (by kernel_rfl) (by kernel_rfl) (Eq.trans (by kernel_rfl) (field_ptr (P := Try.prog) (h := h_23) (s := 50) (f := 0) (by kernel_rfl) e98)) ?_
              replace hF := obind_some hF; obtain ⟨h_99, e100, hF⟩ := hF
              refine WL.eff (h' := h_99) (by kernel_rfl) (by kernel_rfl) (Eq.trans (by kernel_rfl) (store_row (P := Try.prog) (h := h_23) (t := 39) (v := (.agg ([.int .i64 t54, .int .i64 t56] : List AV))) (by kernel_rfl) (by kernel_rfl) e100)) ?_
              refine WL.nil (by kernel_rfl) ?_
              refine Go.weaken (l' := [(0, t0), (3, v3)]) (Fr.sub_cons (by kernel_rfl) (Fr.sub_cons (by kernel_rfl) (Fr.sub_nil _))) ?_
              refine n90 ?_
              refine W.seqK (by kernel_rfl) (fun K101 n101 e101 r101 p101 => ?_)
              refine W.region (by kernel_rfl) ?_
              refine WL.val (d := (some 60)) (v := t0) (h' := h_99) (by kernel_rfl) (by kernel_rfl) (by kernel_rfl) ?_
              replace hF := obind_some hF; obtain ⟨t61, e102, hF⟩ := hF
              refine WL.val (d := (some 61)) (v := t61) (h' := h_99) (by kernel_rfl) (by kernel_rfl) (Eq.trans (by kernel_rfl) (field_ptr (P := Try.prog) (h := h_99) (s := 35) (f := 11) (by kernel_rfl) e102)) ?_
              replace hF := obind_some hF; obtain ⟨v62, e103, hF⟩ := hF
              replace hF := obind_some hF; obtain ⟨t62, c104, hF⟩ := hF
              have c104 := avInt_some c104
              subst c104
              refine WL.val (d := (some 62)) (v := .int .i64 t62) (h' := h_99) (by kernel_rfl) (by kernel_rfl) (Eq.trans (by kernel_rfl) (load_cell (P := Try.prog) (h := h_99) (t := 3) (by kernel_rfl) e103)) ?_
              replace hF := obind_some hF; obtain ⟨t63, e105, hF⟩ := hF
              refine WL.val (d := (some 63)) (v := t63) (h' := h_99) (by kernel_rfl) (by kernel_rfl) (Eq.trans (by kernel_rfl) (nil_chk (h := h_99) e105)) ?_
              replace hF := obind_some hF; obtain ⟨t64, e106, hF⟩ := hF
              refine WL.val (d := (some 64)) (v := t64) (h' := h_99) (by kernel_rfl) (by kernel_rfl) (Eq.trans (by kernel_rfl) (field_ptr (P := Try.prog) (h := h_99) (s := 50) (f := 1) (by kernel_rfl) e106)) ?_
              replace hF := obind_some hF; obtain ⟨h_107, e108, hF⟩ := hF
              refine WL.eff (h' := h_107) (by kernel_rfl) (by kernel_rfl) (Eq.trans (by kernel_rfl) (store_row (P := Try.prog) (h := h_99) (t := 3) (v := (.int .i64 t62)) (by kernel_rfl) (by kernel_rfl) e108)) ?_
              refine WL.nil (by kernel_rfl) ?_
              refine Go.weaken (l' := [(0, t0), (3, v3)]) (Fr.sub_cons (by kernel_rfl) (Fr.sub_cons (by kernel_rfl) (Fr.sub_nil _))) ?_
              refine n101 ?_
              refine W.region (by kernel_rfl) ?_
              refine WL.val (d := (some 65)) (v := t0) (h' := h_107) (by kernel_rfl) (by kernel_rfl) (by kernel_rfl) ?_
              replace hF := obind_some hF; obtain ⟨t66, e109, hF⟩ := hF
              refine WL.val (d := (some 66)) (v := t66) (h' := h_107) (by kernel_rfl) (by kernel_rfl) (Eq.trans (by kernel_rfl) (nil_chk (h := h_107) e109)) ?_
              replace hF := obind_some hF; obtain ⟨t67, e110, hF⟩ := hF
              refine WL.val (d := (some 67)) (v := t67) (h' := h_107) (by kernel_rfl) (by kernel_rfl) (Eq.trans (by kernel_rfl) (field_ptr (P := Try.prog) (h := h_107) (s := 50) (f := 2) (by kernel_rfl) e110)) ?_
              replace hF := obind_some hF; obtain ⟨h_111, e112, hF⟩ := hF
              refine WL.eff (h' := h_111) (by kernel_rfl) (by kernel_rfl) (Eq.trans (by kernel_rfl) (store_row (P := Try.prog) (h := h_107) (t := 9) (v := (strA ([] : Bytes))) (by kernel_rfl) (by kernel_rfl) e112)) ?_
              refine WL.nil (by kernel_rfl) ?_
              refine Go.weaken (l' := [(0, t0), (3, v3)]) (Fr.sub_cons (by kernel_rfl) (Fr.sub_cons (by kernel_rfl) (Fr.sub_nil _))) ?_
              exact Go.weaken (Fr.sub_cons (by kernel_rfl) (Fr.sub_cons (by kernel_rfl) (Fr.sub_nil _))) (J24 _ hF)
            | false =>
              replace hF := ifB_f hF
              refine W.cond_false (by kernel_rfl) (by kernel_rfl) ?_
              refine W.skip (by kernel_rfl) ?_
              exact Go.weaken (Fr.sub_cons (by kernel_rfl) (Fr.sub_cons (by kernel_rfl) (Fr.sub_nil _))) (J24 _ hF)
          refine W.draw (by kernel_rfl) (hc.ok w0) (plan := [0, 1, 2, 3, 4, 5, 6, 7, 8, 9, 10, 11, 12, 13, 14, 15, 16, 17, 18, 19, 20, 21, 22, 23, 24, 25, 26]) (by kernel_rfl) (by kernel_rfl) (by kernel_rfl) ?_
          replace hF := obind_some hF; obtain ⟨t25, e113, hF⟩ := hF
          refine WD.val (d := (some 25)) (v := t25) (h' := h_16) (by kernel_rfl) (by kernel_rfl) (Eq.trans (by kernel_rfl) (field_ptr (P := Try.prog) (h := h_16) (s := 35) (f := 4) (by kernel_rfl) e113)) (k := 0) (by kernel_rfl) (fun e => absurd e (by decide)) (by decide) ?_
          replace hF := obind_some hF; obtain ⟨v26, e114, hF⟩ := hF
          replace hF := obind_some hF; obtain ⟨t26, c115, hF⟩ := hF
          have c115 := avInt_some c115
          subst c115
          refine WD.val (d := (some 26)) (v := .int .i64 t26) (h' := h_16) (by kernel_rfl) (by kernel_rfl) (Eq.trans (by kernel_rfl) (load_cell (P := Try.prog) (h := h_16) (t := 3) (by kernel_rfl) e114)) (k := 1) (by kernel_rfl) (fun e => absurd e (by decide)) (by decide) ?_
          refine WD.val (d := (some 27)) (v := t0) (h' := h_16) (by kernel_rfl) (by kernel_rfl) (by kernel_rfl) (k := 0) (by kernel_rfl) (fun e => absurd e (by decide)) (by decide) ?_
          replace hF := obind_some hF; obtain ⟨t28, e116, hF⟩ := hF
          refine WD.val (d := (some 28)) (v := t28) (h' := h_16) (by kernel_rfl) (by kernel_rfl) (Eq.trans (by kernel_rfl) (nil_chk (h := h_16) e116)) (k := 0) (by kernel_rfl) (fun e => absurd e (by decide)) (by decide) ?_
          replace hF := obind_some hF; obtain ⟨t29, e117, hF⟩ := hF
          refine WD.val (d := (some 29)) (v := t29) (h' := h_16) (by kernel_rfl) (by kernel_rfl) (Eq.trans (by kernel_rfl) (field_ptr (P := Try.prog) (h := h_16) (s := 50) (f := 0) (by kernel_rfl) e117)) (k := 0) (by kernel_rfl) (fun e => absurd e (by decide)) (by decide) ?_
          replace hF := obind_some hF; obtain ⟨t30, e118, hF⟩ := hF
          refine WD.val (d := (some 30)) (v := t30) (h' := h_16) (by kernel_rfl) (by kernel_rfl) (Eq.trans (by kernel_rfl) (field_ptr (P := Try.prog) (h := h_16) (s := 39) (f := 0) (by kernel_rfl) e118)) (k := 0) (by kernel_rfl) (fun e => absurd e (by decide)) (by decide) ?_
          replace hF := obind_some hF; obtain ⟨v31, e119, hF⟩ := hF
          replace hF := obind_some hF; obtain ⟨t31, c120, hF⟩ := hF
          have c120 := avInt_some c120
          subst c120
          refine WD.val (d := (some 31)) (v := .int .i64 t31) (h' := h_16) (by kernel_rfl) (by kernel_rfl) (Eq.trans (by kernel_rfl) (load_cell (P := Try.prog) (h := h_16) (t := 3) (by kernel_rfl) e119)) (k := 1) (by kernel_rfl) (fun e => absurd e (by decide)) (by decide) ?_
          replace hF := lett_some hF; obtain ⟨t32, e121, hF⟩ := hF
          refine WD.val (d := (some 32)) (v := .bool t32) (h' := h_16) (by kernel_rfl) (by kernel_rfl) (val_of AV.bool e121 (by kernel_rfl)) (k := 0) (by kernel_rfl) (fun e => absurd e (by decide)) (by decide) ?_
          refine WD.val (d := (some 33)) (v := .bool t32) (h' := h_16) (by kernel_rfl) (by kernel_rfl) (by kernel_rfl) (k := 0) (by kernel_rfl) (fun e => absurd e (by decide)) (by decide) ?_
          cases t32 with
          | true =>
            replace hF := ifB_t hF
            refine WD.not (d := (some 34)) (by kernel_rfl) (by kernel_rfl) (k := 0) (by kernel_rfl) (fun e => absurd e (by decide)) (by decide) ?_
            refine WD.not (d := (some 35)) (by kernel_rfl) (by kernel_rfl) (k := 1) (by kernel_rfl) (fun e => absurd e (by decide)) (by decide) ?_
            refine WD.not (d := (some 36)) (by kernel_rfl) (by kernel_rfl) (k := 0) (by kernel_rfl) (fun e => absurd e (by decide)) (by decide) ?_
            refine WD.not (d := (some 37)) (by kernel_rfl) (by kernel_rfl) (k := 0) (by kernel_rfl) (fun e => absurd e (by decide)) (by decide) ?_
            refine WD.not (d := (some 38)) (by kernel_rfl) (by kernel_rfl) (k := 0) (by kernel_rfl) (fun e => absurd e (by decide)) (by decide) ?_
            refine WD.not (d := (some 39)) (by kernel_rfl) (by kernel_rfl) (k := 0) (by kernel_rfl) (fun e => absurd e (by decide)) (by decide) ?_
            refine WD.not (d := (some 40)) (by kernel_rfl) (by kernel_rfl) (k := 1) (by kernel_rfl) (fun e => absurd e (by decide)) (by decide) ?_
            refine WD.not (d := (some 41)) (by kernel_rfl) (by kernel_rfl) (k := 0) (by kernel_rfl) (fun e => absurd e (by decide)) (by decide) ?_
            refine WD.val (d := (some 42)) (v := .bool true) (h' := h_16) (by kernel_rfl) (by kernel_rfl) (by kernel_rfl) (k := 0) (by kernel_rfl) (fun e => absurd e (by decide)) (by decide) ?_
            refine WD.val (d := (some 43)) (v := .bool true) (h' := h_16) (by kernel_rfl) (by kernel_rfl) (by kernel_rfl) (k := 0) (by kernel_rfl) (fun e => absurd e (by decide)) (by decide) ?_
            refine WD.not (d := (some 44)) (by kernel_rfl) (by kernel_rfl) (k := 0) (by kernel_rfl) (fun e => absurd e (by decide)) (by decide) ?_
            refine WD.not (d := (some 45)) (by kernel_rfl) (by kernel_rfl) (k := 1) (by kernel_rfl) (fun e => absurd e (by decide)) (by decide) ?_
            refine WD.not (d := (some 46)) (by kernel_rfl) (by kernel_rfl) (k := 0) (by kernel_rfl) (fun e => absurd e (by decide)) (by decide) ?_
            refine WD.not (d := (some 47)) (by kernel_rfl) (by kernel_rfl) (k := 0) (by kernel_rfl) (fun e => absurd e (by decide)) (by decide) ?_
            refine WD.not (d := (some 48)) (by kernel_rfl) (by kernel_rfl) (k := 0) (by kernel_rfl) (fun e => absurd e (by decide)) (by decide) ?_
            refine WD.not (d := (some 49)) (by kernel_rfl) (by kernel_rfl) (k := 1) (by kernel_rfl) (fun e => absurd e (by decide)) (by decide) ?_
            refine WD.not (d := (some 50)) (by kernel_rfl) (by kernel_rfl) (k := 0) (by kernel_rfl) (fun e => absurd e (by decide)) (by decide) ?_
            refine WD.val (d := (some 51)) (v := .bool true) (h' := h_16) (by kernel_rfl) (by kernel_rfl) (by kernel_rfl) (k := 0) (by kernel_rfl) (fun e => absurd e (by decide)) (by decide) ?_
            refine WD.nil ?_
            exact Go.weaken (Fr.sub_cons (by kernel_rfl) (Fr.sub_cons (by kernel_rfl) (Fr.sub_cons (by kernel_rfl) (Fr.sub_nil _)))) (J22 _ _ hF)
          | false =>
            replace hF := ifB_f hF
            replace hF := obind_some hF; obtain ⟨t34, e122, hF⟩ := hF
            refine WD.val (d := (some 34)) (v := t34) (h' := h_16) (by kernel_rfl) (by kernel_rfl) (Eq.trans (by kernel_rfl) (field_ptr (P := Try.prog) (h := h_16) (s := 35) (f := 5) (by kernel_rfl) e122)) (k := 0) (by kernel_rfl) (fun e => absurd e (by decide)) (by decide) ?_
            replace hF := obind_some hF; obtain ⟨v35, e123, hF⟩ := hF
            replace hF := obind_some hF; obtain ⟨t35, c124, hF⟩ := hF
            have c124 := avInt_some c124
            subst c124
            refine WD.val (d := (some 35)) (v := .int .i64 t35) (h' := h_16) (by kernel_rfl) (by kernel_rfl) (Eq.trans (by kernel_rfl) (load_cell (P := Try.prog) (h := h_16) (t := 3) (by kernel_rfl) e123)) (k := 1) (by kernel_rfl) (fun e => absurd e (by decide)) (by decide) ?_
            refine WD.val (d := (some 36)) (v := t0) (h' := h_16) (by kernel_rfl) (by kernel_rfl) (by kernel_rfl) (k := 0) (by kernel_rfl) (fun e => absurd e (by decide)) (by decide) ?_
            replace hF := obind_some hF; obtain ⟨t37, e125, hF⟩ := hF
            refine WD.val (d := (some 37)) (v := t37) (h' := h_16) (by kernel_rfl) (by kernel_rfl) (Eq.trans (by kernel_rfl) (nil_chk (h := h_16) e125)) (k := 0) (by kernel_rfl) (fun e => absurd e (by decide)) (by decide) ?_
            replace hF := obind_some hF; obtain ⟨t38, e126, hF⟩ := hF
            refine WD.val (d := (some 38)) (v := t38) (h' := h_16) (by kernel_rfl) (by kernel_rfl) (Eq.trans (by kernel_rfl) (field_ptr (P := Try.prog) (h := h_16) (s := 50) (f := 0) (by kernel_rfl) e126)) (k := 0) (by kernel_rfl) (fun e => absurd e (by decide)) (by decide) ?_
            replace hF := obind_some hF; obtain ⟨t39, e127, hF⟩ := hF
            refine WD.val (d := (some 39)) (v := t39) (h' := h_16) (by kernel_rfl) (by kernel_rfl) (Eq.trans (by kernel_rfl) (field_ptr (P := Try.prog) (h := h_16) (s := 39) (f := 1) (by kernel_rfl) e127)) (k := 0) (by kernel_rfl) (fun e => absurd e (by decide)) (by decide) ?_
            replace hF := obind_some hF; obtain ⟨v40, e128, hF⟩ := hF
            replace hF := obind_some hF; obtain ⟨t40, c129, hF⟩ := hF
            have c129 := avInt_some c129
            subst c129
            refine WD.val (d := (some 40)) (v := .int .i64 t40) (h' := h_16) (by kernel_rfl) (by kernel_rfl) (Eq.trans (by kernel_rfl) (load_cell (P := Try.prog) (h := h_16) (t := 3) (by kernel_rfl) e128)) (k := 1) (by kernel_rfl) (fun e => absurd e (by decide)) (by decide) ?_
            replace hF := lett_some hF; obtain ⟨t41, e130, hF⟩ := hF
            refine WD.val (d := (some 41)) (v := .bool t41) (h' := h_16) (by kernel_rfl) (by kernel_rfl) (val_of AV.bool e130 (by kernel_rfl)) (k := 0) (by kernel_rfl) (fun e => absurd e (by decide)) (by decide) ?_
            refine WD.val (d := (some 42)) (v := .bool t41) (h' := h_16) (by kernel_rfl) (by kernel_rfl) (by kernel_rfl) (k := 0) (by kernel_rfl) (fun e => absurd e (by decide)) (by decide) ?_
            refine WD.val (d := (some 43)) (v := .bool t41) (h' := h_16) (by kernel_rfl) (by kernel_rfl) (by kernel_rfl) (k := 0) (by kernel_rfl) (fun e => absurd e (by decide)) (by decide) ?_
            cases t41 with
            | true =>
              replace hF := ifB_t hF
              refine WD.not (d := (some 44)) (by kernel_rfl) (by kernel_rfl) (k := 0) (by kernel_rfl) (fun e => absurd e (by decide)) (by decide) ?_
              refine WD.not (d := (some 45)) (by kernel_rfl) (by kernel_rfl) (k := 1) (by kernel_rfl) (fun e => absurd e (by decide)) (by decide) ?_
              refine WD.not (d := (some 46)) (by kernel_rfl) (by kernel_rfl) (k := 0) (by kernel_rfl) (fun e => absurd e (by decide)) (by decide) ?_
              refine WD.not (d := (some 47)) (by kernel_rfl) (by kernel_rfl) (k := 0) (by kernel_rfl) (fun e => absurd e (by decide)) (by decide) ?_
              refine WD.not (d := (some 48)) (by kernel_rfl) (by kernel_rfl) (k := 0) (by kernel_rfl) (fun e => absurd e (by decide)) (by decide) ?_
              refine WD.not (d := (some 49)) (by kernel_rfl) (by kernel_rfl) (k := 1) (by kernel_rfl) (fun e => absurd e (by decide)) (by decide) ?_
              refine WD.not (d := (some 50)) (by kernel_rfl) (by kernel_rfl) (k := 0) (by kernel_rfl) (fun e => absurd e (by decide)) (by decide) ?_
              refine WD.val (d := (some 51)) (v := .bool true) (h' := h_16) (by kernel_rfl) (by kernel_rfl) (by kernel_rfl) (k := 0) (by kernel_rfl) (fun e => absurd e (by decide)) (by decide) ?_
              refine WD.nil ?_
              exact Go.weaken (Fr.sub_cons (by kernel_rfl) (Fr.sub_cons (by kernel_rfl) (Fr.sub_cons (by kernel_rfl) (Fr.sub_nil _)))) (J22 _ _ hF)
            | false =>
              replace hF := ifB_f hF
              replace hF := obind_some hF; obtain ⟨t44, e131, hF⟩ := hF
              refine WD.val (d := (some 44)) (v := t44) (h' := h_16) (by kernel_rfl) (by kernel_rfl) (Eq.trans (by kernel_rfl) (field_ptr (P := Try.prog) (h := h_16) (s := 35) (f := 11) (by kernel_rfl) e131)) (k := 0) (by kernel_rfl) (fun e => absurd e (by decide)) (by decide) ?_
              replace hF := obind_some hF; obtain ⟨v45, e132, hF⟩ := hF
              replace hF := obind_some hF; obtain ⟨t45, c133, hF⟩ := hF
              have c133 := avInt_some c133
              subst c133
              refine WD.val (d := (some 45)) (v := .int .i64 t45) (h' := h_16) (by kernel_rfl) (by kernel_rfl) (Eq.trans (by kernel_rfl) (load_cell (P := Try.prog) (h := h_16) (t := 3) (by kernel_rfl) e132)) (k := 1) (by kernel_rfl) (fun e => absurd e (by decide)) (by decide) ?_
              refine WD.val (d := (some 46)) (v := t0) (h' := h_16) (by kernel_rfl) (by kernel_rfl) (by kernel_rfl) (k := 0) (by kernel_rfl) (fun e => absurd e (by decide)) (by decide) ?_
              replace hF := obind_some hF; obtain ⟨t47, e134, hF⟩ := hF
              refine WD.val (d := (some 47)) (v := t47) (h' := h_16) (by kernel_rfl) (by kernel_rfl) (Eq.trans (by kernel_rfl) (nil_chk (h := h_16) e134)) (k := 0) (by kernel_rfl) (fun e => absurd e (by decide)) (by decide) ?_
              replace hF := obind_some hF; obtain ⟨t48, e135, hF⟩ := hF
              refine WD.val (d := (some 48)) (v := t48) (h' := h_16) (by kernel_rfl) (by kernel_rfl) (Eq.trans (by kernel_rfl) (field_ptr (P := Try.prog) (h := h_16) (s := 50) (f := 1) (by kernel_rfl) e135)) (k := 0) (by kernel_rfl) (fun e => absurd e (by decide)) (by decide) ?_
              replace hF := obind_some hF; obtain ⟨v49, e136, hF⟩ := hF
              replace hF := obind_some hF; obtain ⟨t49, c137, hF⟩ := hF
              have c137 := avInt_some c137
              subst c137
              refine WD.val (d := (some 49)) (v := .int .i64 t49) (h' := h_16) (by kernel_rfl) (by kernel_rfl) (Eq.trans (by kernel_rfl) (load_cell (P := Try.prog) (h := h_16) (t := 3) (by kernel_rfl) e136)) (k := 1) (by kernel_rfl) (fun e => absurd e (by decide)) (by decide) ?_
              replace hF := lett_some hF; obtain ⟨t50, e138, hF⟩ := hF
              refine WD.val (d := (some 50)) (v := .bool t50) (h' := h_16) (by kernel_rfl) (by kernel_rfl) (val_of AV.bool e138 (by kernel_rfl)) (k := 0) (by kernel_rfl) (fun e => absurd e (by decide)) (by decide) ?_
              refine WD.val (d := (some 51)) (v := .bool t50) (h' := h_16) (by kernel_rfl) (by kernel_rfl) (by kernel_rfl) (k := 0) (by kernel_rfl) (fun e => absurd e (by decide)) (by decide) ?_
              refine WD.nil ?_
              exact Go.weaken (Fr.sub_cons (by kernel_rfl) (Fr.sub_cons (by kernel_rfl) (Fr.sub_cons (by kernel_rfl) (Fr.sub_nil _)))) (J22 _ _ hF)
      cases t19 with
      | true =>
        replace hF := ifB_t hF
        refine WL.not (d := (some 21)) (by kernel_rfl) (by kernel_rfl) ?_
        refine WL.not (d := (some 22)) (by kernel_rfl) (by kernel_rfl) ?_
        refine WL.not (d := (some 23)) (by kernel_rfl) (by kernel_rfl) ?_
        refine WL.val (d := (some 24)) (v := .bool true) (h' := h_13) (by kernel_rfl) (by kernel_rfl) (by kernel_rfl) ?_
        exact WL.weaken (Fr.sub_cons (by kernel_rfl) (Fr.sub_cons (by kernel_rfl) (Fr.sub_cons (by kernel_rfl) (Fr.sub_nil _)))) (J18 _ _ hF)
      | false =>
        replace hF := ifB_f hF
        replace hF := obind_some hF; obtain ⟨t21, e139, hF⟩ := hF
        refine WL.val (d := (some 21)) (v := t21) (h' := h_13) (by kernel_rfl) (by kernel_rfl) (Eq.trans (by kernel_rfl) (field_ptr (P := Try.prog) (h := h_13) (s := 35) (f := 4) (by kernel_rfl) e139)) ?_
        replace hF := obind_some hF; obtain ⟨v22, e140, hF⟩ := hF
        replace hF := obind_some hF; obtain ⟨t22, c141, hF⟩ := hF
        have c141 := avInt_some c141
        subst c141
        refine WL.val (d := (some 22)) (v := .int .i64 t22) (h' := h_13) (by kernel_rfl) (by kernel_rfl) (Eq.trans (by kernel_rfl) (load_cell (P := Try.prog) (h := h_13) (t := 3) (by kernel_rfl) e140)) ?_
        replace hF := lett_some hF; obtain ⟨t23, e142, hF⟩ := hF
        refine WL.val (d := (some 23)) (v := .bool t23) (h' := h_13) (by kernel_rfl) (by kernel_rfl) (val_of AV.bool e142 (by kernel_rfl)) ?_
        refine WL.val (d := (some 24)) (v := .bool t23) (h' := h_13) (by kernel_rfl) (by kernel_rfl) (by kernel_rfl) ?_
        exact WL.weaken (Fr.sub_cons (by kernel_rfl) (Fr.sub_cons (by kernel_rfl) (Fr.sub_cons (by kernel_rfl) (Fr.sub_nil _)))) (J18 _ _ hF)
    cases t14 with
    | true =>
      replace hF := ifB_t hF
      refine WL.not (d := (some 16)) (by kernel_rfl) (by kernel_rfl) ?_
      refine WL.not (d := (some 17)) (by kernel_rfl) (by kernel_rfl) ?_
      refine WL.not (d := (some 18)) (by kernel_rfl) (by kernel_rfl) ?_
      refine WL.val (d := (some 19)) (v := .bool true) (h' := h_10) (by kernel_rfl) (by kernel_rfl) (by kernel_rfl) ?_
      exact WL.weaken (Fr.sub_cons (by kernel_rfl) (Fr.sub_cons (by kernel_rfl) (Fr.sub_cons (by kernel_rfl) (Fr.sub_nil _)))) (J15 _ _ hF)
    | false =>
      replace hF := ifB_f hF
      replace hF := obind_some hF; obtain ⟨t16, e143, hF⟩ := hF
      refine WL.val (d := (some 16)) (v := t16) (h' := h_10) (by kernel_rfl) (by kernel_rfl) (Eq.trans (by kernel_rfl) (field_ptr (P := Try.prog) (h := h_10) (s := 35) (f := 10) (by kernel_rfl) e143)) ?_
      replace hF := obind_some hF; obtain ⟨v17, e144, hF⟩ := hF
      replace hF := obind_some hF; obtain ⟨t17, c145, hF⟩ := hF
      have c145 := avInt_some c145
      subst c145
      refine WL.val (d := (some 17)) (v := .int .i64 t17) (h' := h_10) (by kernel_rfl) (by kernel_rfl) (Eq.trans (by kernel_rfl) (load_cell (P := Try.prog) (h := h_10) (t := 3) (by kernel_rfl) e144)) ?_
      replace hF := lett_some hF; obtain ⟨t18, e146, hF⟩ := hF
      refine WL.val (d := (some 18)) (v := .bool t18) (h' := h_10) (by kernel_rfl) (by kernel_rfl) (val_of AV.bool e146 (by kernel_rfl)) ?_
      refine WL.val (d := (some 19)) (v := .bool t18) (h' := h_10) (by kernel_rfl) (by kernel_rfl) (by kernel_rfl) ?_
      exact WL.weaken (Fr.sub_cons (by kernel_rfl) (Fr.sub_cons (by kernel_rfl) (Fr.sub_cons (by kernel_rfl) (Fr.sub_nil _)))) (J15 _ _ hF)
  cases t9 with
  | true =>
    replace hF := ifB_t hF
    refine WL.not (d := (some 11)) (by kernel_rfl) (by kernel_rfl) ?_
    refine WL.not (d := (some 12)) (by kernel_rfl) (by kernel_rfl) ?_
    refine WL.not (d := (some 13)) (by kernel_rfl) (by kernel_rfl) ?_
    refine WL.val (d := (some 14)) (v := .bool true) (h' := h_2) (by kernel_rfl) (by kernel_rfl) (by kernel_rfl) ?_
    exact WL.weaken (Fr.sub_cons (by kernel_rfl) (Fr.sub_cons (by kernel_rfl) (Fr.sub_cons (by kernel_rfl) (Fr.sub_nil _)))) (J12 _ _ hF)
  | false =>
    replace hF := ifB_f hF
    replace hF := obind_some hF; obtain ⟨t11, e147, hF⟩ := hF
    refine WL.val (d := (some 11)) (v := t11) (h' := h_2) (by kernel_rfl) (by kernel_rfl) (Eq.trans (by kernel_rfl) (field_ptr (P := Try.prog) (h := h_2) (s := 35) (f := 11) (by kernel_rfl) e147)) ?_
    replace hF := obind_some hF; obtain ⟨v12, e148, hF⟩ := hF
    replace hF := obind_some hF; obtain ⟨t12, c149, hF⟩ := hF
    have c149 := avInt_some c149
    subst c149
    refine WL.val (d := (some 12)) (v := .int .i64 t12) (h' := h_2) (by kernel_rfl) (by kernel_rfl) (Eq.trans (by kernel_rfl) (load_cell (P := Try.prog) (h := h_2) (t := 3) (by kernel_rfl) e148)) ?_
    replace hF := lett_some hF; obtain ⟨t13, e150, hF⟩ := hF
    refine WL.val (d := (some 13)) (v := .bool t13) (h' := h_2) (by kernel_rfl) (by kernel_rfl) (val_of AV.bool e150 (by kernel_rfl)) ?_
    refine WL.val (d := (some 14)) (v := .bool t13) (h' := h_2) (by kernel_rfl) (by kernel_rfl) (by kernel_rfl) ?_
    exact WL.weaken (Fr.sub_cons (by kernel_rfl) (Fr.sub_cons (by kernel_rfl) (Fr.sub_cons (by kernel_rfl) (Fr.sub_nil _)))) (J12 _ _ hF)
noncomputable def ref19_Inbox_Put_fn (call : CallF) (n : Nat) : FnT := fun args h => match args with
  | [x0, x1] => obind (avAgg x1) fun t1 => ref19_Inbox_Put call n x0 t1 h
  | _ => none
set_option maxRecDepth 100000 in
theorem ref19_Inbox_Put_fn_eq (call : CallF) (n : Nat) (t0 : AV) (t1 : List AV) (h : AHeap) : ref19_Inbox_Put_fn call n [t0, .agg t1] h = ref19_Inbox_Put call n t0 t1 h :=
  (Eq.trans (obind_eq (fun t1 => ref19_Inbox_Put call n t0 t1 h) (avAgg_agg t1)) rfl)
theorem ref19_Inbox_Put_holds {call : CallF} (hc : SaysAll Try.prog call) (n : Nat) : Holds Try.prog 18 (ref19_Inbox_Put_fn call n) := by
  intro args h r h2 e
  unfold ref19_Inbox_Put_fn at e
  split at e
  · replace e := obind_some e; obtain ⟨t1, c1, e⟩ := e; have c1 := avAgg_some c1; subst c1
    exact ref19_Inbox_Put_ok hc e
  · cases e

noncomputable def snap_Piece (call : CallF) (_ : Nat) (t0 : Bytes) (t1 : Int) (h : AHeap) : R :=
  lett (decide (t1 < 0)) fun (t7 : Bool) =>
  lett (fun (t13 : Bool) (h_5 : AHeap) =>
    ifB t13
    (
      some (.ret (.tup [strA ([] : Bytes), .int .i64 5]), h_5))
    (
      obind (sliceS t0 t1 (lenS t0)) fun t16 =>
      callN (call 37 [strA t16] h_5) fun r17 h_11 =>
      obind (avStr r17) fun t17 =>
      some (.ret (.tup [strA t17, .int .i64 0]), h_11))) fun j13 =>
  ifB t7
  (
    j13 true h)
  (
    lett (decide (t1 > (lenS t0))) fun (t12 : Bool) =>
    j13 t12 h)
set_option maxHeartbeats 4000000 in
set_option maxRecDepth 20000 in
theorem snap_Piece_ok {call : CallF} (hc : SaysAll Try.prog call) {n : Nat} {t0 : Bytes} {t1 : Int} {h : AHeap} {rR : ARes} {hR : AHeap} (hF : snap_Piece call n t0 t1 h = some (rR, hR)) : Says Try.prog 10 [strA t0, .int .i64 t1] h rR hR := by
  unfold snap_Piece at hF
  refine says_of (fn := Try.f10) Try.func10 (c := codeOf Try.f10) (by kernel_rfl) (by kernel_rfl) (fun w0 m0 => ?_)
  refine W.weaken (l' := [(0, strA t0), (1, .int .i64 t1)]) (Fr.sub_cons (by kernel_rfl) (Fr.sub_cons (by kernel_rfl) (Fr.sub_nil _))) ?_
  refine W.seqK (by kernel_rfl) (fun K1 n1 e1 r1 p1 => ?_)
  refine W.region (by kernel_rfl) ?_
  refine WL.val (d := (some 4)) (v := strA ([] : Bytes)) (h' := h) (by kernel_rfl) (by kernel_rfl) (by kernel_rfl) ?_
  refine WL.val (d := (some 5)) (v := .int .i64 0) (h' := h) (by kernel_rfl) (by kernel_rfl) (by kernel_rfl) ?_
  refine WL.nil (by kernel_rfl) ?_
  refine Go.weaken (l' := [(0, strA t0), (1, .int .i64 t1)]) (Fr.sub_cons (by kernel_rfl) (Fr.sub_cons (by kernel_rfl) (Fr.sub_nil _))) ?_
  refine n1 ?_
  refine W.seqK (by kernel_rfl) (fun K2 n2 e2 r2 p2 => ?_)
  refine W.seqK (by kernel_rfl) (fun K3 n3 e3 r3 p3 => ?_)
  refine W.region (by kernel_rfl) ?_
  refine WL.val (d := (some 6)) (v := .int .i64 t1) (h' := h) (by kernel_rfl) (by kernel_rfl) (by kernel_rfl) ?_
  replace hF := lett_some hF; obtain ⟨t7, e4, hF⟩ := hF
  refine WL.val (d := (some 7)) (v := .bool t7) (h' := h) (by kernel_rfl) (by kernel_rfl) (val_of AV.bool e4 (by kernel_rfl)) ?_
  refine WL.val (d := (some 8)) (v := .bool t7) (h' := h) (by kernel_rfl) (by kernel_rfl) (by kernel_rfl) ?_
  replace hF := lett_some hF; obtain ⟨j13, e6, hF⟩ := hF
  have J7 : ∀ (t13 : Bool) (h_5 : AHeap), j13 t13 h_5 = some (rR, hR) → WL Try.prog w0 m0 (Func.ntmps Try.f10) (Code.ops (Code.p1 (Code.p1 (Code.p2 (codeOf Try.f10))))) 8 K3 [(0, strA t0), (1, .int .i64 t1), (13, .bool t13)] [] h_5 := by
    intro t13 h_5 hF
    rw [e6] at hF
    refine WL.nil (by kernel_rfl) ?_
    refine Go.weaken (l' := [(0, strA t0), (1, .int .i64 t1), (13, .bool t13)]) (Fr.sub_cons (by kernel_rfl) (Fr.sub_cons (by kernel_rfl) (Fr.sub_cons (by kernel_rfl) (Fr.sub_nil _)))) ?_
    refine n3 ?_
    cases t13 with
    | true =>
      replace hF := ifB_t hF
      refine W.cond_true (by kernel_rfl) (by kernel_rfl) ?_
      refine W.seqK (by kernel_rfl) (fun K8 n8 e8 r8 p8 => ?_)
      refine W.region (by kernel_rfl) ?_
      refine WL.val (d := (some 4)) (v := strA ([] : Bytes)) (h' := h_5) (by kernel_rfl) (by kernel_rfl) (by kernel_rfl) ?_
      refine WL.val (d := (some 5)) (v := .int .i64 5) (h' := h_5) (by kernel_rfl) (by kernel_rfl) (by kernel_rfl) ?_
      refine WL.nil (by kernel_rfl) ?_
      refine Go.weaken (l' := [(4, strA ([] : Bytes)), (5, .int .i64 5)]) (Fr.sub_cons (by kernel_rfl) (Fr.sub_cons (by kernel_rfl) (Fr.sub_nil _))) ?_
      refine n8 ?_
      refine W.ret (by kernel_rfl) ?_
      refine r2 ?_
      obtain ⟨hF, hF2⟩ := ret_inj hF; subst hF; subst hF2
      exact leave_of (rs := [.tmp 4, .tmp 5]) (vs := [strA ([] : Bytes), .int .i64 5]) (by kernel_rfl) (res_tmp (by kernel_rfl) (res_tmp (by kernel_rfl) res_nil)) (by kernel_rfl)
    | false =>
      replace hF := ifB_f hF
      refine W.cond_false (by kernel_rfl) (by kernel_rfl) ?_
      refine W.skip (by kernel_rfl) ?_
      refine n2 ?_
      refine W.seqK (by kernel_rfl) (fun K9 n9 e9 r9 p9 => ?_)
      refine W.region (by kernel_rfl) ?_
      refine WL.val (d := (some 14)) (v := strA t0) (h' := h_5) (by kernel_rfl) (by kernel_rfl) (by kernel_rfl) ?_
      refine WL.val (d := (some 15)) (v := .int .i64 t1) (h' := h_5) (by kernel_rfl) (by kernel_rfl) (by kernel_rfl) ?_
      replace hF := obind_some hF; obtain ⟨t16, e10, hF⟩ := hF
      refine WL.val (d := (some 16)) (v := strA t16) (h' := h_5) (by kernel_rfl) (by kernel_rfl) (Eq.trans (by kernel_rfl) (slice_str (P := Try.prog) (h := h_5) (t := 9) (A := (some (.int .i64 t1))) (B := none) (by kernel_rfl) (.inl ⟨_, rfl⟩) (.inr ⟨rfl, rfl⟩) e10)) ?_
      replace hF := callN_some hF; obtain ⟨r17, h_11, e12, hF⟩ := hF
      replace hF := obind_some hF; obtain ⟨t17, c13, hF⟩ := hF
      have c13 := avStr_some c13
      subst c13
      refine WL.call (hc.ok w0) (d := (some 17)) (by kernel_rfl) (by kernel_rfl) (by kernel_rfl) e12 ?_
      refine WL.val (d := (some 4)) (v := strA t17) (h' := h_11) (by kernel_rfl) (by kernel_rfl) (by kernel_rfl) ?_
      refine WL.val (d := (some 5)) (v := .int .i64 0) (h' := h_11) (by kernel_rfl) (by kernel_rfl) (by kernel_rfl) ?_
      refine WL.nil (by kernel_rfl) ?_
      refine Go.weaken (l' := [(4, strA t17), (5, .int .i64 0)]) (Fr.sub_cons (by kernel_rfl) (Fr.sub_cons (by kernel_rfl) (Fr.sub_nil _))) ?_
      refine n9 ?_
      refine W.ret (by kernel_rfl) ?_
      obtain ⟨hF, hF2⟩ := ret_inj hF; subst hF; subst hF2
      exact leave_of (rs := [.tmp 4, .tmp 5]) (vs := [strA t17, .int .i64 0]) (by kernel_rfl) (res_tmp (by kernel_rfl) (res_tmp (by kernel_rfl) res_nil)) (by kernel_rfl)
  cases t7 with
  | true =>
    replace hF := ifB_t hF
    refine WL.not (d := (some 9)) (by kernel_rfl) (by kernel_rfl) ?_
    refine WL.not (d := (some 10)) (by kernel_rfl) (by kernel_rfl) ?_
    refine WL.not (d := (some 11)) (by kernel_rfl) (by kernel_rfl) ?_
    refine WL.not (d := (some 12)) (by kernel_rfl) (by kernel_rfl) ?_
    refine WL.val (d := (some 13)) (v := .bool true) (h' := h) (by kernel_rfl) (by kernel_rfl) (by kernel_rfl) ?_
    exact WL.weaken (Fr.sub_cons (by kernel_rfl) (Fr.sub_cons (by kernel_rfl) (Fr.sub_cons (by kernel_rfl) (Fr.sub_nil _)))) (J7 _ _ hF)
  | false =>
    replace hF := ifB_f hF
    refine WL.val (d := (some 9)) (v := .int .i64 t1) (h' := h) (by kernel_rfl) (by kernel_rfl) (by kernel_rfl) ?_
    refine WL.val (d := (some 10)) (v := strA t0) (h' := h) (by kernel_rfl) (by kernel_rfl) (by kernel_rfl) ?_
    refine WL.val (d := (some 11)) (v := .int .i64 (lenS t0)) (h' := h) (by kernel_rfl) (by kernel_rfl) (by kernel_rfl) ?_
    replace hF := lett_some hF; obtain ⟨t12, e14, hF⟩ := hF
    refine WL.val (d := (some 12)) (v := .bool t12) (h' := h) (by kernel_rfl) (by kernel_rfl) (val_of AV.bool e14 (by kernel_rfl)) ?_
    refine WL.val (d := (some 13)) (v := .bool t12) (h' := h) (by kernel_rfl) (by kernel_rfl) (by kernel_rfl) ?_
    exact WL.weaken (Fr.sub_cons (by kernel_rfl) (Fr.sub_cons (by kernel_rfl) (Fr.sub_cons (by kernel_rfl) (Fr.sub_nil _)))) (J7 _ _ hF)
noncomputable def snap_Piece_fn (call : CallF) (n : Nat) : FnT := fun args h => match args with
  | [x0, x1] => obind (avStr x0) fun t0 => obind (avInt .i64 x1) fun t1 => snap_Piece call n t0 t1 h
  | _ => none
set_option maxRecDepth 100000 in
theorem snap_Piece_fn_eq (call : CallF) (n : Nat) (t0 : Bytes) (t1 : Int) (h : AHeap) : snap_Piece_fn call n [strA t0, .int .i64 t1] h = snap_Piece call n t0 t1 h :=
  (Eq.trans (obind_eq (fun t0 => obind (avInt .i64 (.int .i64 t1)) fun t1 => snap_Piece call n t0 t1 h) (avStr_str t0)) (Eq.trans (obind_eq (fun t1 => snap_Piece call n t0 t1 h) (avInt_int .i64 t1)) rfl))
theorem snap_Piece_holds {call : CallF} (hc : SaysAll Try.prog call) (n : Nat) : Holds Try.prog 10 (snap_Piece_fn call n) := by
  intro args h r h2 e
  unfold snap_Piece_fn at e
  split at e
  · replace e := obind_some e; obtain ⟨t0, c0, e⟩ := e; have c0 := avStr_some c0; subst c0
    replace e := obind_some e; obtain ⟨t1, c1, e⟩ := e; have c1 := avInt_some c1; subst c1
    exact snap_Piece_ok hc e
  · cases e

noncomputable def snap_chunk (_ : CallF) (_ : Nat) (t0 : Bytes) (h : AHeap) : R :=
  lett (if 2048 < (lenS t0) then 2048 else (lenS t0)) fun (t6 : Int) =>
  obind (sliceS t0 0 t6) fun t7 =>
  some (.ret (strA t7), h)
set_option maxHeartbeats 4000000 in
set_option maxRecDepth 20000 in
theorem snap_chunk_ok {call : CallF} (_ : SaysAll Try.prog call) {n : Nat} {t0 : Bytes} {h : AHeap} {rR : ARes} {hR : AHeap} (hF : snap_chunk call n t0 h = some (rR, hR)) : Says Try.prog 37 [strA t0] h rR hR := by
  unfold snap_chunk at hF
  refine says_of (fn := Try.f37) Try.func37 (c := codeOf Try.f37) (by kernel_rfl) (by kernel_rfl) (fun w0 m0 => ?_)
  refine W.weaken (l' := [(0, strA t0)]) (Fr.sub_cons (by kernel_rfl) (Fr.sub_nil _)) ?_
  refine W.seqK (by kernel_rfl) (fun K1 n1 e1 r1 p1 => ?_)
  refine W.region (by kernel_rfl) ?_
  refine WL.val (d := (some 2)) (v := strA ([] : Bytes)) (h' := h) (by kernel_rfl) (by kernel_rfl) (by kernel_rfl) ?_
  refine WL.nil (by kernel_rfl) ?_
  refine Go.weaken (l' := [(0, strA t0)]) (Fr.sub_cons (by kernel_rfl) (Fr.sub_nil _)) ?_
  refine n1 ?_
  refine W.seqK (by kernel_rfl) (fun K2 n2 e2 r2 p2 => ?_)
  refine W.region (by kernel_rfl) ?_
  refine WL.val (d := (some 3)) (v := strA t0) (h' := h) (by kernel_rfl) (by kernel_rfl) (by kernel_rfl) ?_
  refine WL.val (d := (some 4)) (v := strA t0) (h' := h) (by kernel_rfl) (by kernel_rfl) (by kernel_rfl) ?_
  refine WL.val (d := (some 5)) (v := .int .i64 (lenS t0)) (h' := h) (by kernel_rfl) (by kernel_rfl) (by kernel_rfl) ?_
  replace hF := lett_some hF; obtain ⟨t6, e3, hF⟩ := hF
  refine WL.val (d := (some 6)) (v := .int .i64 t6) (h' := h) (by kernel_rfl) (by kernel_rfl) (val_of (AV.int .i64) e3 (by kernel_rfl)) ?_
  replace hF := obind_some hF; obtain ⟨t7, e4, hF⟩ := hF
  refine WL.val (d := (some 7)) (v := strA t7) (h' := h) (by kernel_rfl) (by kernel_rfl) (Eq.trans (by kernel_rfl) (slice_str (P := Try.prog) (h := h) (t := 9) (A := none) (B := (some (.int .i64 t6))) (by kernel_rfl) (.inr ⟨rfl, rfl⟩) (.inl ⟨_, rfl⟩) e4)) ?_
  refine WL.val (d := (some 2)) (v := strA t7) (h' := h) (by kernel_rfl) (by kernel_rfl) (by kernel_rfl) ?_
  refine WL.nil (by kernel_rfl) ?_
  refine Go.weaken (l' := [(2, strA t7)]) (Fr.sub_cons (by kernel_rfl) (Fr.sub_nil _)) ?_
  refine n2 ?_
  refine W.ret (by kernel_rfl) ?_
  obtain ⟨hF, hF2⟩ := ret_inj hF; subst hF; subst hF2
  exact leave_of (rs := [.tmp 2]) (vs := [strA t7]) (by kernel_rfl) (res_tmp (by kernel_rfl) res_nil) (by kernel_rfl)
noncomputable def snap_chunk_fn (call : CallF) (n : Nat) : FnT := fun args h => match args with
  | [x0] => obind (avStr x0) fun t0 => snap_chunk call n t0 h
  | _ => none
set_option maxRecDepth 100000 in
theorem snap_chunk_fn_eq (call : CallF) (n : Nat) (t0 : Bytes) (h : AHeap) : snap_chunk_fn call n [strA t0] h = snap_chunk call n t0 h :=
  (Eq.trans (obind_eq (fun t0 => snap_chunk call n t0 h) (avStr_str t0)) rfl)
theorem snap_chunk_holds {call : CallF} (hc : SaysAll Try.prog call) (n : Nat) : Holds Try.prog 37 (snap_chunk_fn call n) := by
  intro args h r h2 e
  unfold snap_chunk_fn at e
  split at e
  · replace e := obind_some e; obtain ⟨t0, c0, e⟩ := e; have c0 := avStr_some c0; subst c0
    exact snap_chunk_ok hc e
  · cases e

noncomputable def snap_NewInbox (_ : CallF) (_ : Nat)  (h : AHeap) : R :=
  outK (opBox h 98 (some (.agg ([.int .i64 0, .int .i64 0, .int .i64 0, .nsl] : List AV)))) fun v2 h_3 =>
  some (.ret (v2), h_3)
set_option maxHeartbeats 4000000 in
set_option maxRecDepth 20000 in
theorem snap_NewInbox_ok {call : CallF} (_ : SaysAll Try.prog call) {n : Nat}  {h : AHeap} {rR : ARes} {hR : AHeap} (hF : snap_NewInbox call n  h = some (rR, hR)) : Says Try.prog 11 [] h rR hR := by
  unfold snap_NewInbox at hF
  refine says_of (fn := Try.f11) Try.func11 (c := codeOf Try.f11) (by kernel_rfl) (by kernel_rfl) (fun w0 m0 => ?_)
  refine W.weaken (l' := []) (Fr.sub_nil _) ?_
  refine W.seqK (by kernel_rfl) (fun K1 n1 e1 r1 p1 => ?_)
  refine W.region (by kernel_rfl) ?_
  refine WL.val (d := (some 0)) (v := AV.nilp) (h' := h) (by kernel_rfl) (by kernel_rfl) (by kernel_rfl) ?_
  refine WL.nil (by kernel_rfl) ?_
  refine Go.weaken (l' := []) (Fr.sub_nil _) ?_
  refine n1 ?_
  refine W.seqK (by kernel_rfl) (fun K2 n2 e2 r2 p2 => ?_)
  refine W.region (by kernel_rfl) ?_
  refine WL.val (d := (some 1)) (v := .agg ([.int .i64 0, .int .i64 0, .int .i64 0, .nsl] : List AV)) (h' := h) (by kernel_rfl) (by kernel_rfl) (by kernel_rfl) ?_
  replace hF := outK_some hF; obtain ⟨v2, h_3, e4, hF⟩ := hF
  refine WL.val (d := (some 2)) (v := v2) (h' := h_3) (by kernel_rfl) (by kernel_rfl) (Eq.trans (by kernel_rfl) e4) ?_
  refine WL.val (d := (some 0)) (v := v2) (h' := h_3) (by kernel_rfl) (by kernel_rfl) (by kernel_rfl) ?_
  refine WL.nil (by kernel_rfl) ?_
  refine Go.weaken (l' := [(0, v2)]) (Fr.sub_cons (by kernel_rfl) (Fr.sub_nil _)) ?_
  refine n2 ?_
  refine W.ret (by kernel_rfl) ?_
  obtain ⟨hF, hF2⟩ := ret_inj hF; subst hF; subst hF2
  exact leave_of (rs := [.tmp 0]) (vs := [v2]) (by kernel_rfl) (res_tmp (by kernel_rfl) res_nil) (by kernel_rfl)
noncomputable def snap_NewInbox_fn (call : CallF) (n : Nat) : FnT := fun args h => match args with
  | [] => snap_NewInbox call n  h
  | _ => none
set_option maxRecDepth 100000 in
theorem snap_NewInbox_fn_eq (call : CallF) (n : Nat)  (h : AHeap) : snap_NewInbox_fn call n [] h = snap_NewInbox call n  h :=
  rfl
theorem snap_NewInbox_holds {call : CallF} (hc : SaysAll Try.prog call) (n : Nat) : Holds Try.prog 11 (snap_NewInbox_fn call n) := by
  intro args h r h2 e
  unfold snap_NewInbox_fn at e
  split at e
  · exact snap_NewInbox_ok hc e
  · cases e

end Go.Proofs.Ytpnccmlajhhpdaa
