/- Plain functions in place of the program's, and that their calls come to what they say. -/
import Derived.Test.YtjhnmfhpjlolhaaGl
namespace Go.Proofs.Ytjhnmfhpjlolhaa
open Go.RowKit Abs

noncomputable def law20_LeaseApart_L1b (call : CallF) (t26 : Int) (v48 : AV) (v55 : AV) (t78 : Int) (t80 : Int) (t112 : Int) (k126 : AHeap → R) (self : Int → AHeap → R) (t113 : Int) (h_129 : AHeap) : R :=
  lett (decide (t113 < t112)) fun (t114 : Bool) =>
  ifB t114
  (
    callN (call 17 [v48, .int .i64 1] h_129) fun r116 h_136 =>
    obind (avInt .i64 r116) fun _ =>
    callN (call 17 [v55, .int .i64 1] h_136) fun r118 h_140 =>
    obind (avInt .i64 r118) fun _ =>
    callN (call 18 [v48] h_140) fun r120 h_144 =>
    obind (avInt .i64 r120) fun t120 =>
    lett (IntKind.i64.wrap (t120 - t78)) fun (t122 : Int) =>
    lett (decide (t122 < t26)) fun (t124 : Bool) =>
    lett (fun (t131 : Bool) (h_149 : AHeap) =>
      ifB t131
      (
        some (.ret (.bool false), h_149))
      (
        lett (IntKind.i64.wrap (t113 + 1)) fun (t132 : Int) =>
        self t132 h_149)) fun j131 =>
    ifB t124
    (
      callN (call 18 [v55] h_144) fun r127 h_154 =>
      obind (avInt .i64 r127) fun t127 =>
      lett (IntKind.i64.wrap (t127 - t80)) fun (t129 : Int) =>
      lett (decide (t129 ≥ 20)) fun (t130 : Bool) =>
      j131 t130 h_154)
    (
      j131 false h_144))
  (
    k126 h_129)
noncomputable def law20_LeaseApart_L1 (call : CallF) (t26 : Int) (v48 : AV) (v55 : AV) (t78 : Int) (t80 : Int) (t112 : Int) (k126 : AHeap → R) : Nat → Int → AHeap → R := iterR (fun _ _ => none) (law20_LeaseApart_L1b call t26 v48 v55 t78 t80 t112 k126)
theorem law20_LeaseApart_L1_s (call : CallF) (t26 : Int) (v48 : AV) (v55 : AV) (t78 : Int) (t80 : Int) (t112 : Int) (k126 : AHeap → R) (m : Nat) : law20_LeaseApart_L1 call t26 v48 v55 t78 t80 t112 k126 (m + 1) = law20_LeaseApart_L1b call t26 v48 v55 t78 t80 t112 k126 (law20_LeaseApart_L1 call t26 v48 v55 t78 t80 t112 k126 m) := rfl
noncomputable def law20_LeaseApart_L0b (call : CallF) (n : Nat) (t0 : Int) (t4 : AV) (t26 : Int) (v48 : AV) (v55 : AV) (t78 : Int) (t80 : Int) (t82 : Int) (k79 : AHeap → R) (self : Int → AHeap → R) (t83 : Int) (h_83 : AHeap) : R :=
  lett (decide (t83 < t82)) fun (t84 : Bool) =>
  ifB t84
  (
    lett (fun  (h_90 : AHeap) =>
      lett (IntKind.i64.wrap (t83 + 1)) fun (t133 : Int) =>
      self t133 h_90) fun k89 =>
    obind (idxP 3 t4 t83) fun t85 =>
    obind (ldRow h_83 3 t85) fun t86 =>
    lett (newH h_83 50 [.int .i64 0, .int .i64 0, .int .i64 0]) fun h_95 =>
    obind (stRow h_95 3 t86 (newP h_83)) fun h_97 =>
    obind (ldCell h_97 (AV.ptr (AHeap.next h_83) 0)) fun v88 =>
    obind (avInt .i64 v88) fun t88 =>
    lett (decide (t88 < 0)) fun (t89 : Bool) =>
    lett (fun (t94 : Bool) (h_104 : AHeap) =>
      ifB t94
      (
        k89 h_104)
      (
        obind (ldCell h_104 (AV.ptr (AHeap.next h_83) 1)) fun v97 =>
        obind (avInt .i64 v97) fun t97 =>
        callN (call 16 [.int .i64 t97, .int .i64 t0] h_104) fun r99 h_111 =>
        obind (avInt .i64 r99) fun t99 =>
        callN (call 19 [v48, .int .i64 t99] h_111) fun r100 h_114 =>
        obind (avInt .i64 r100) fun t100 =>
        lett ((t100 : Int) != 0) fun (t101 : Bool) =>
        lett (fun (t110 : Bool) (h_118 : AHeap) =>
          ifB t110
          (
            some (.ret (.bool false), h_118))
          (
            obind (ldCell h_118 (AV.ptr (AHeap.next h_83) 0)) fun v112 =>
            obind (avInt .i64 v112) fun t112 =>
            lett (fun  (h_127 : AHeap) =>
              k89 h_127) fun k126 =>
            law20_LeaseApart_L1 call t26 v48 v55 t78 t80 t112 k126 n 0 h_118)) fun j110 =>
        ifB t101
        (
          j110 true h_114)
        (
          obind (ldCell h_114 (AV.ptr (AHeap.next h_83) 2)) fun v105 =>
          obind (avInt .i64 v105) fun t105 =>
          callN (call 16 [.int .i64 t105, .int .i64 t0] h_114) fun r107 h_161 =>
          obind (avInt .i64 r107) fun t107 =>
          callN (call 19 [v55, .int .i64 t107] h_161) fun r108 h_164 =>
          obind (avInt .i64 r108) fun t108 =>
          lett ((t108 : Int) != 0) fun (t109 : Bool) =>
          j110 t109 h_164))) fun j94 =>
    ifB t89
    (
      j94 true h_97)
    (
      obind (ldCell h_97 (AV.ptr (AHeap.next h_83) 0)) fun v92 =>
      obind (avInt .i64 v92) fun t92 =>
      lett (decide (t92 > 100)) fun (t93 : Bool) =>
      j94 t93 h_97))
  (
    k79 h_83)
noncomputable def law20_LeaseApart_L0 (call : CallF) (n : Nat) (t0 : Int) (t4 : AV) (t26 : Int) (v48 : AV) (v55 : AV) (t78 : Int) (t80 : Int) (t82 : Int) (k79 : AHeap → R) : Nat → Int → AHeap → R := iterR (fun _ _ => none) (law20_LeaseApart_L0b call n t0 t4 t26 v48 v55 t78 t80 t82 k79)
theorem law20_LeaseApart_L0_s (call : CallF) (n : Nat) (t0 : Int) (t4 : AV) (t26 : Int) (v48 : AV) (v55 : AV) (t78 : Int) (t80 : Int) (t82 : Int) (k79 : AHeap → R) (m : Nat) : law20_LeaseApart_L0 call n t0 t4 t26 v48 v55 t78 t80 t82 k79 (m + 1) = law20_LeaseApart_L0b call n t0 t4 t26 v48 v55 t78 t80 t82 k79 (law20_LeaseApart_L0 call n t0 t4 t26 v48 v55 t78 t80 t82 k79 m) := rfl
noncomputable def law20_LeaseApart (call : CallF) (n : Nat) (t0 : Int) (t1 : Int) (t2 : Int) (t3 : Int) (t4 : AV) (h : AHeap) : R :=
  callN (call 8 [] h) fun r21 h_4 =>
  obind (avBool r21) fun t21 =>
  lett (!t21) fun (t22 : Bool) =>
  ifB t22
  (
    some (.ret (.bool false), h_4))
  (
    callN (call 9 [.int .i64 t0] h_4) fun r25 h_10 =>
    obind (extT 0 r25) fun v26 =>
    obind (avInt .i64 v26) fun t26 =>
    obind (extT 1 r25) fun v27 =>
    obind (avInt .i64 v27) fun t27 =>
    lett ((t27 : Int) != 0) fun (t29 : Bool) =>
    lett (fun (t34 : Bool) (h_19 : AHeap) =>
      lett (fun (t38 : Bool) (h_22 : AHeap) =>
        lett (fun (t42 : Bool) (h_25 : AHeap) =>
          ifB t42
          (
            some (.ret (.bool true), h_25))
          (
            callN (call 16 [.int .i64 t2, .int .i64 t0] h_25) fun r46 h_30 =>
            obind (avInt .i64 r46) fun t46 =>
            callN (call 15 [.int .i64 t46] h_30) fun r47 h_33 =>
            obind (extT 0 r47) fun v48 =>
            obind (extT 1 r47) fun v49 =>
            obind (avInt .i64 v49) fun t49 =>
            callN (call 16 [.int .i64 t3, .int .i64 t0] h_33) fun r53 h_39 =>
            obind (avInt .i64 r53) fun t53 =>
            callN (call 15 [.int .i64 t53] h_39) fun r54 h_42 =>
            obind (extT 0 r54) fun v55 =>
            obind (extT 1 r54) fun v56 =>
            obind (avInt .i64 v56) fun t56 =>
            lett ((t49 : Int) != 0) fun (t58 : Bool) =>
            lett (fun (t62 : Bool) (h_50 : AHeap) =>
              lett (fun (t66 : Bool) (h_53 : AHeap) =>
                lett (fun (t70 : Bool) (h_56 : AHeap) =>
                  ifB t70
                  (
                    some (.ret (.bool false), h_56))
                  (
                    callN (call 17 [v48, .int .i64 t1] h_56) fun r73 h_61 =>
                    obind (avInt .i64 r73) fun _ =>
                    callN (call 17 [v55, .int .i64 t1] h_61) fun r76 h_65 =>
                    obind (avInt .i64 r76) fun _ =>
                    callN (call 18 [v48] h_65) fun r78 h_69 =>
                    obind (avInt .i64 r78) fun t78 =>
                    callN (call 18 [v55] h_69) fun r80 h_72 =>
                    obind (avInt .i64 r80) fun t80 =>
                    obind (lenL t4) fun t82 =>
                    lett (fun  (h_80 : AHeap) =>
                      some (.ret (.bool true), h_80)) fun k79 =>
                    law20_LeaseApart_L0 call n t0 t4 t26 v48 v55 t78 t80 t82 k79 n 0 h_72)) fun j70 =>
                ifB t66
                (
                  j70 true h_53)
                (
                  outK (opBin Try.prog h_53 .eql 43 true (some v55) (some AV.nilp)) fun v69 h_171 =>
                  obind (avBool v69) fun t69 =>
                  j70 t69 h_171)) fun j66 =>
              ifB t62
              (
                j66 true h_50)
              (
                outK (opBin Try.prog h_50 .eql 43 true (some v48) (some AV.nilp)) fun v65 h_174 =>
                obind (avBool v65) fun t65 =>
                j66 t65 h_174)) fun j62 =>
            ifB t58
            (
              j62 true h_42)
            (
              lett ((t56 : Int) != 0) fun (t61 : Bool) =>
              j62 t61 h_42))) fun j42 =>
        ifB t38
        (
          j42 true h_22)
        (
          lett (decide (t1 > 5000)) fun (t41 : Bool) =>
          j42 t41 h_22)) fun j38 =>
      ifB t34
      (
        j38 true h_19)
      (
        lett (decide (t1 < 0)) fun (t37 : Bool) =>
        j38 t37 h_19)) fun j34 =>
    ifB t29
    (
      j34 true h_10)
    (
      obind (lenL t4) fun t32 =>
      lett (decide (t32 > 200)) fun (t33 : Bool) =>
      j34 t33 h_10))
set_option maxHeartbeats 4000000 in
set_option maxRecDepth 20000 in
theorem law20_LeaseApart_ok {call : CallF} (hc : SaysAll Try.prog call) {n : Nat} {t0 : Int} {t1 : Int} {t2 : Int} {t3 : Int} {t4 : AV} {h : AHeap} {rR : ARes} {hR : AHeap} (hF : law20_LeaseApart call n t0 t1 t2 t3 t4 h = some (rR, hR)) : Says Try.prog 6 [.int .i64 t0, .int .i64 t1, .int .i64 t2, .int .i64 t3, t4] h rR hR := by
  unfold law20_LeaseApart at hF
  refine says_of (fn := Try.f6) Try.func6 (c := codeOf Try.f6) (by kernel_rfl) (by kernel_rfl) (fun w0 m0 => ?_)
  refine W.weaken (l' := [(0, .int .i64 t0), (1, .int .i64 t1), (2, .int .i64 t2), (3, .int .i64 t3), (4, t4)]) (Fr.sub_cons (by kernel_rfl) (Fr.sub_cons (by kernel_rfl) (Fr.sub_cons (by kernel_rfl) (Fr.sub_cons (by kernel_rfl) (Fr.sub_cons (by kernel_rfl) (Fr.sub_nil _)))))) ?_
  refine W.seqK (by kernel_rfl) (fun K1 n1 e1 r1 p1 => ?_)
  refine W.region (by kernel_rfl) ?_
  refine WL.val (d := (some 10)) (v := .bool false) (h' := h) (by kernel_rfl) (by kernel_rfl) (by kernel_rfl) ?_
  refine WL.nil (by kernel_rfl) ?_
  refine Go.weaken (l' := [(0, .int .i64 t0), (1, .int .i64 t1), (2, .int .i64 t2), (3, .int .i64 t3), (4, t4)]) (Fr.sub_cons (by kernel_rfl) (Fr.sub_cons (by kernel_rfl) (Fr.sub_cons (by kernel_rfl) (Fr.sub_cons (by kernel_rfl) (Fr.sub_cons (by kernel_rfl) (Fr.sub_nil _)))))) ?_
  refine n1 ?_
  refine W.seqK (by kernel_rfl) (fun K2 n2 e2 r2 p2 => ?_)
  refine W.seqK (by kernel_rfl) (fun K3 n3 e3 r3 p3 => ?_)
  refine W.region (by kernel_rfl) ?_
  replace hF := callN_some hF; obtain ⟨r21, h_4, e5, hF⟩ := hF
  replace hF := obind_some hF; obtain ⟨t21, c6, hF⟩ := hF
  have c6 := avBool_some c6
  subst c6
  refine WL.call (hc.ok w0) (d := (some 21)) (by kernel_rfl) (by kernel_rfl) (by kernel_rfl) e5 ?_
  replace hF := lett_some hF; obtain ⟨t22, e7, hF⟩ := hF
  refine WL.val (d := (some 22)) (v := .bool t22) (h' := h_4) (by kernel_rfl) (by kernel_rfl) (val_of AV.bool e7 (by kernel_rfl)) ?_
  refine WL.nil (by kernel_rfl) ?_
  refine Go.weaken (l' := [(0, .int .i64 t0), (1, .int .i64 t1), (2, .int .i64 t2), (3, .int .i64 t3), (4, t4), (22, .bool t22)]) (Fr.sub_cons (by kernel_rfl) (Fr.sub_cons (by kernel_rfl) (Fr.sub_cons (by kernel_rfl) (Fr.sub_cons (by kernel_rfl) (Fr.sub_cons (by kernel_rfl) (Fr.sub_cons (by kernel_rfl) (Fr.sub_nil _))))))) ?_
  refine n3 ?_
  cases t22 with
  | true =>
    replace hF := ifB_t hF
    refine W.cond_true (by kernel_rfl) (by kernel_rfl) ?_
    refine W.seqK (by kernel_rfl) (fun K8 n8 e8 r8 p8 => ?_)
    refine W.region (by kernel_rfl) ?_
    refine WL.val (d := (some 10)) (v := .bool false) (h' := h_4) (by kernel_rfl) (by kernel_rfl) (by kernel_rfl) ?_
    refine WL.nil (by kernel_rfl) ?_
    refine Go.weaken (l' := [(10, .bool false)]) (Fr.sub_cons (by kernel_rfl) (Fr.sub_nil _)) ?_
    refine n8 ?_
    refine W.ret (by kernel_rfl) ?_
    refine r2 ?_
    obtain ⟨hF, hF2⟩ := ret_inj hF; subst hF; subst hF2
    exact leave_of (rs := [.tmp 10]) (vs := [.bool false]) (by kernel_rfl) (res_tmp (by kernel_rfl) res_nil) (by kernel_rfl)
  | false =>
    replace hF := ifB_f hF
    refine W.cond_false (by kernel_rfl) (by kernel_rfl) ?_
    refine W.skip (by kernel_rfl) ?_
    refine n2 ?_
    refine W.seqK (by kernel_rfl) (fun K9 n9 e9 r9 p9 => ?_)
    refine W.region (by kernel_rfl) ?_
    refine WL.val (d := (some 24)) (v := .int .i64 t0) (h' := h_4) (by kernel_rfl) (by kernel_rfl) (by kernel_rfl) ?_
    replace hF := callN_some hF; obtain ⟨r25, h_10, e11, hF⟩ := hF
    refine WL.call (hc.ok w0) (d := (some 25)) (by kernel_rfl) (by kernel_rfl) (by kernel_rfl) e11 ?_
    refine WL.val (d := (some 23)) (v := r25) (h' := h_10) (by kernel_rfl) (by kernel_rfl) (by kernel_rfl) ?_
    replace hF := obind_some hF; obtain ⟨v26, e12, hF⟩ := hF
    replace hF := obind_some hF; obtain ⟨t26, c13, hF⟩ := hF
    have c13 := avInt_some c13
    subst c13
    refine WL.val (d := (some 26)) (v := .int .i64 t26) (h' := h_10) (by kernel_rfl) (by kernel_rfl) (Eq.trans (by kernel_rfl) (extract_tup (h := h_10) e12)) ?_
    replace hF := obind_some hF; obtain ⟨v27, e14, hF⟩ := hF
    replace hF := obind_some hF; obtain ⟨t27, c15, hF⟩ := hF
    have c15 := avInt_some c15
    subst c15
    refine WL.val (d := (some 27)) (v := .int .i64 t27) (h' := h_10) (by kernel_rfl) (by kernel_rfl) (Eq.trans (by kernel_rfl) (extract_tup (h := h_10) e14)) ?_
    refine WL.val (d := (some 11)) (v := .int .i64 t26) (h' := h_10) (by kernel_rfl) (by kernel_rfl) (by kernel_rfl) ?_
    refine WL.val (d := (some 12)) (v := .int .i64 t27) (h' := h_10) (by kernel_rfl) (by kernel_rfl) (by kernel_rfl) ?_
    refine WL.nil (by kernel_rfl) ?_
    refine Go.weaken (l' := [(0, .int .i64 t0), (1, .int .i64 t1), (2, .int .i64 t2), (3, .int .i64 t3), (4, t4), (11, .int .i64 t26), (12, .int .i64 t27)]) (Fr.sub_cons (by kernel_rfl) (Fr.sub_cons (by kernel_rfl) (Fr.sub_cons (by kernel_rfl) (Fr.sub_cons (by kernel_rfl) (Fr.sub_cons (by kernel_rfl) (Fr.sub_cons (by kernel_rfl) (Fr.sub_cons (by kernel_rfl) (Fr.sub_nil _)))))))) ?_
    refine n9 ?_
    refine W.seqK (by kernel_rfl) (fun K16 n16 e16 r16 p16 => ?_)
    refine W.seqK (by kernel_rfl) (fun K17 n17 e17 r17 p17 => ?_)
    refine W.region (by kernel_rfl) ?_
    refine WL.val (d := (some 28)) (v := .int .i64 t27) (h' := h_10) (by kernel_rfl) (by kernel_rfl) (by kernel_rfl) ?_
    replace hF := lett_some hF; obtain ⟨t29, e18, hF⟩ := hF
    refine WL.val (d := (some 29)) (v := .bool t29) (h' := h_10) (by kernel_rfl) (by kernel_rfl) (val_of AV.bool e18 (by kernel_rfl)) ?_
    refine WL.val (d := (some 30)) (v := .bool t29) (h' := h_10) (by kernel_rfl) (by kernel_rfl) (by kernel_rfl) ?_
    replace hF := lett_some hF; obtain ⟨j34, e20, hF⟩ := hF
    have J21 : ∀ (t34 : Bool) (h_19 : AHeap), j34 t34 h_19 = some (rR, hR) → WL Try.prog w0 m0 (Func.ntmps Try.f6) (Code.ops (Code.p1 (Code.p1 (Code.p2 (Code.p2 (Code.p2 (codeOf Try.f6))))))) 7 K17 [(0, .int .i64 t0), (1, .int .i64 t1), (2, .int .i64 t2), (3, .int .i64 t3), (4, t4), (11, .int .i64 t26), (34, .bool t34)] [] h_19 := by
      intro t34 h_19 hF
      rw [e20] at hF
      refine WL.val (d := (some 35)) (v := .bool t34) (h' := h_19) (by kernel_rfl) (by kernel_rfl) (by kernel_rfl) ?_
      replace hF := lett_some hF; obtain ⟨j38, e23, hF⟩ := hF
      have J24 : ∀ (t38 : Bool) (h_22 : AHeap), j38 t38 h_22 = some (rR, hR) → WL Try.prog w0 m0 (Func.ntmps Try.f6) (Code.ops (Code.p1 (Code.p1 (Code.p2 (Code.p2 (Code.p2 (codeOf Try.f6))))))) 11 K17 [(0, .int .i64 t0), (1, .int .i64 t1), (2, .int .i64 t2), (3, .int .i64 t3), (4, t4), (11, .int .i64 t26), (38, .bool t38)] [] h_22 := by
        intro t38 h_22 hF
        rw [e23] at hF
        refine WL.val (d := (some 39)) (v := .bool t38) (h' := h_22) (by kernel_rfl) (by kernel_rfl) (by kernel_rfl) ?_
        replace hF := lett_some hF; obtain ⟨j42, e26, hF⟩ := hF
        have J27 : ∀ (t42 : Bool) (h_25 : AHeap), j42 t42 h_25 = some (rR, hR) → WL Try.prog w0 m0 (Func.ntmps Try.f6) (Code.ops (Code.p1 (Code.p1 (Code.p2 (Code.p2 (Code.p2 (codeOf Try.f6))))))) 15 K17 [(0, .int .i64 t0), (1, .int .i64 t1), (2, .int .i64 t2), (3, .int .i64 t3), (4, t4), (11, .int .i64 t26), (42, .bool t42)] [] h_25 := by
          intro t42 h_25 hF
          rw [e26] at hF
          refine WL.nil (by kernel_rfl) ?_
          refine Go.weaken (l' := [(0, .int .i64 t0), (1, .int .i64 t1), (2, .int .i64 t2), (3, .int .i64 t3), (4, t4), (11, .int .i64 t26), (42, .bool t42)]) (Fr.sub_cons (by kernel_rfl) (Fr.sub_cons (by kernel_rfl) (Fr.sub_cons (by kernel_rfl) (Fr.sub_cons (by kernel_rfl) (Fr.sub_cons (by kernel_rfl) (Fr.sub_cons (by kernel_rfl) (Fr.sub_cons (by kernel_rfl) (Fr.sub_nil _)))))))) ?_
          refine n17 ?_
          cases t42 with
          | true =>
            replace hF := ifB_t hF
            refine W.cond_true (by kernel_rfl) (by kernel_rfl) ?_
            refine W.seqK (by kernel_rfl) (fun K28 n28 e28 r28 p28 => ?_)
            refine W.region (by kernel_rfl) ?_
            refine WL.val (d := (some 10)) (v := .bool true) (h' := h_25) (by kernel_rfl) (by kernel_rfl) (by kernel_rfl) ?_
            refine WL.nil (by kernel_rfl) ?_
            refine Go.weaken (l' := [(10, .bool true)]) (Fr.sub_cons (by kernel_rfl) (Fr.sub_nil _)) ?_
            refine n28 ?_
            refine W.ret (by kernel_rfl) ?_
            refine r16 ?_
            obtain ⟨hF, hF2⟩ := ret_inj hF; subst hF; subst hF2
            exact leave_of (rs := [.tmp 10]) (vs := [.bool true]) (by kernel_rfl) (res_tmp (by kernel_rfl) res_nil) (by kernel_rfl)
          | false =>
            replace hF := ifB_f hF
            refine W.cond_false (by kernel_rfl) (by kernel_rfl) ?_
            refine W.skip (by kernel_rfl) ?_
            refine n16 ?_
            refine W.seqK (by kernel_rfl) (fun K29 n29 e29 r29 p29 => ?_)
            refine W.region (by kernel_rfl) ?_
            refine WL.val (d := (some 44)) (v := .int .i64 t2) (h' := h_25) (by kernel_rfl) (by kernel_rfl) (by kernel_rfl) ?_
            refine WL.val (d := (some 45)) (v := .int .i64 t0) (h' := h_25) (by kernel_rfl) (by kernel_rfl) (by kernel_rfl) ?_
            replace hF := callN_some hF; obtain ⟨r46, h_30, e31, hF⟩ := hF
            replace hF := obind_some hF; obtain ⟨t46, c32, hF⟩ := hF
            have c32 := avInt_some c32
            subst c32
            refine WL.call (hc.ok w0) (d := (some 46)) (by kernel_rfl) (by kernel_rfl) (by kernel_rfl) e31 ?_
            replace hF := callN_some hF; obtain ⟨r47, h_33, e34, hF⟩ := hF
            refine WL.call (hc.ok w0) (d := (some 47)) (by kernel_rfl) (by kernel_rfl) (by kernel_rfl) e34 ?_
            refine WL.val (d := (some 43)) (v := r47) (h' := h_33) (by kernel_rfl) (by kernel_rfl) (by kernel_rfl) ?_
            replace hF := obind_some hF; obtain ⟨v48, e35, hF⟩ := hF
            refine WL.val (d := (some 48)) (v := v48) (h' := h_33) (by kernel_rfl) (by kernel_rfl) (Eq.trans (by kernel_rfl) (extract_tup (h := h_33) e35)) ?_
            replace hF := obind_some hF; obtain ⟨v49, e36, hF⟩ := hF
            replace hF := obind_some hF; obtain ⟨t49, c37, hF⟩ := hF
            have c37 := avInt_some c37
            subst c37
            refine WL.val (d := (some 49)) (v := .int .i64 t49) (h' := h_33) (by kernel_rfl) (by kernel_rfl) (Eq.trans (by kernel_rfl) (extract_tup (h := h_33) e36)) ?_
            refine WL.val (d := (some 13)) (v := v48) (h' := h_33) (by kernel_rfl) (by kernel_rfl) (by kernel_rfl) ?_
            refine WL.val (d := (some 14)) (v := .int .i64 t49) (h' := h_33) (by kernel_rfl) (by kernel_rfl) (by kernel_rfl) ?_
            refine WL.nil (by kernel_rfl) ?_
            refine Go.weaken (l' := [(0, .int .i64 t0), (1, .int .i64 t1), (3, .int .i64 t3), (4, t4), (11, .int .i64 t26), (13, v48), (14, .int .i64 t49)]) (Fr.sub_cons (by kernel_rfl) (Fr.sub_cons (by kernel_rfl) (Fr.sub_cons (by kernel_rfl) (Fr.sub_cons (by kernel_rfl) (Fr.sub_cons (by kernel_rfl) (Fr.sub_cons (by kernel_rfl) (Fr.sub_cons (by kernel_rfl) (Fr.sub_nil _)))))))) ?_
            refine n29 ?_
            refine W.seqK (by kernel_rfl) (fun K38 n38 e38 r38 p38 => ?_)
            refine W.region (by kernel_rfl) ?_
            refine WL.val (d := (some 51)) (v := .int .i64 t3) (h' := h_33) (by kernel_rfl) (by kernel_rfl) (by kernel_rfl) ?_
            refine WL.val (d := (some 52)) (v := .int .i64 t0) (h' := h_33) (by kernel_rfl) (by kernel_rfl) (by kernel_rfl) ?_
            replace hF := callN_some hF; obtain ⟨r53, h_39, e40, hF⟩ := hF
            replace hF := obind_some hF; obtain ⟨t53, c41, hF⟩ := hF
            have c41 := avInt_some c41
            subst c41
            refine WL.call (hc.ok w0) (d := (some 53)) (by kernel_rfl) (by kernel_rfl) (by kernel_rfl) e40 ?_
            replace hF := callN_some hF; obtain ⟨r54, h_42, e43, hF⟩ := hF
            refine WL.call (hc.ok w0) (d := (some 54)) (by kernel_rfl) (by kernel_rfl) (by kernel_rfl) e43 ?_
            refine WL.val (d := (some 50)) (v := r54) (h' := h_42) (by kernel_rfl) (by kernel_rfl) (by kernel_rfl) ?_
            replace hF := obind_some hF; obtain ⟨v55, e44, hF⟩ := hF
            refine WL.val (d := (some 55)) (v := v55) (h' := h_42) (by kernel_rfl) (by kernel_rfl) (Eq.trans (by kernel_rfl) (extract_tup (h := h_42) e44)) ?_
            replace hF := obind_some hF; obtain ⟨v56, e45, hF⟩ := hF
            replace hF := obind_some hF; obtain ⟨t56, c46, hF⟩ := hF
            have c46 := avInt_some c46
            subst c46
            refine WL.val (d := (some 56)) (v := .int .i64 t56) (h' := h_42) (by kernel_rfl) (by kernel_rfl) (Eq.trans (by kernel_rfl) (extract_tup (h := h_42) e45)) ?_
            refine WL.val (d := (some 15)) (v := v55) (h' := h_42) (by kernel_rfl) (by kernel_rfl) (by kernel_rfl) ?_
            refine WL.val (d := (some 16)) (v := .int .i64 t56) (h' := h_42) (by kernel_rfl) (by kernel_rfl) (by kernel_rfl) ?_
            refine WL.nil (by kernel_rfl) ?_
            refine Go.weaken (l' := [(0, .int .i64 t0), (1, .int .i64 t1), (4, t4), (11, .int .i64 t26), (13, v48), (14, .int .i64 t49), (15, v55), (16, .int .i64 t56)]) (Fr.sub_cons (by kernel_rfl) (Fr.sub_cons (by kernel_rfl) (Fr.sub_cons (by kernel_rfl) (Fr.sub_cons (by kernel_rfl) (Fr.sub_cons (by kernel_rfl) (Fr.sub_cons (by kernel_rfl) (Fr.sub_cons (by kernel_rfl) (Fr.sub_cons (by kernel_rfl) (Fr.sub_nil _))))))))) ?_
            refine n38 ?_
            refine W.seqK (by kernel_rfl) (fun K47 n47 e47 r47 p47 => ?_)
            refine W.seqK (by kernel_rfl) (fun K48 n48 e48 r48 p48 => ?_)
            refine W.region (by kernel_rfl) ?_
            refine WL.val (d := (some 57)) (v := .int .i64 t49) (h' := h_42) (by kernel_rfl) (by kernel_rfl) (by kernel_rfl) ?_
            replace hF := lett_some hF; obtain ⟨t58, e49, hF⟩ := hF
            refine WL.val (d := (some 58)) (v := .bool t58) (h' := h_42) (by kernel_rfl) (by kernel_rfl) (val_of AV.bool e49 (by kernel_rfl)) ?_
            refine WL.val (d := (some 59)) (v := .bool t58) (h' := h_42) (by kernel_rfl) (by kernel_rfl) (by kernel_rfl) ?_
            replace hF := lett_some hF; obtain ⟨j62, e51, hF⟩ := hF
            have J52 : ∀ (t62 : Bool) (h_50 : AHeap), j62 t62 h_50 = some (rR, hR) → WL Try.prog w0 m0 (Func.ntmps Try.f6) (Code.ops (Code.p1 (Code.p1 (Code.p2 (Code.p2 (Code.p2 (Code.p2 (Code.p2 (Code.p2 (codeOf Try.f6)))))))))) 6 K48 [(0, .int .i64 t0), (1, .int .i64 t1), (4, t4), (11, .int .i64 t26), (13, v48), (15, v55), (62, .bool t62)] [] h_50 := by
              intro t62 h_50 hF
              rw [e51] at hF
              refine WL.val (d := (some 63)) (v := .bool t62) (h' := h_50) (by kernel_rfl) (by kernel_rfl) (by kernel_rfl) ?_
              replace hF := lett_some hF; obtain ⟨j66, e54, hF⟩ := hF
              have J55 : ∀ (t66 : Bool) (h_53 : AHeap), j66 t66 h_53 = some (rR, hR) → WL Try.prog w0 m0 (Func.ntmps Try.f6) (Code.ops (Code.p1 (Code.p1 (Code.p2 (Code.p2 (Code.p2 (Code.p2 (Code.p2 (Code.p2 (codeOf Try.f6)))))))))) 10 K48 [(0, .int .i64 t0), (1, .int .i64 t1), (4, t4), (11, .int .i64 t26), (13, v48), (15, v55), (66, .bool t66)] [] h_53 := by
                intro t66 h_53 hF
                rw [e54] at hF
                refine WL.val (d := (some 67)) (v := .bool t66) (h' := h_53) (by kernel_rfl) (by kernel_rfl) (by kernel_rfl) ?_
                replace hF := lett_some hF; obtain ⟨j70, e57, hF⟩ := hF
                have J58 : ∀ (t70 : Bool) (h_56 : AHeap), j70 t70 h_56 = some (rR, hR) → WL Try.prog w0 m0 (Func.ntmps Try.f6) (Code.ops (Code.p1 (Code.p1 (Code.p2 (Code.p2 (Code.p2 (Code.p2 (Code.p2 (Code.p2 (codeOf Try.f6)))))))))) 14 K48 [(0, .int .i64 t0), (1, .int .i64 t1), (4, t4), (11, .int .i64 t26), (13, v48), (15, v55), (70, .bool t70)] [] h_56 := by
                  intro t70 h_56 hF
                  rw [e57] at hF
                  refine WL.nil (by kernel_rfl) ?_
                  refine Go.weaken (l' := [(0, .int .i64 t0), (1, .int .i64 t1), (4, t4), (11, .int .i64 t26), (13, v48), (15, v55), (70, .bool t70)]) (Fr.sub_cons (by kernel_rfl) (Fr.sub_cons (by kernel_rfl) (Fr.sub_cons (by kernel_rfl) (Fr.sub_cons (by kernel_rfl) (Fr.sub_cons (by kernel_rfl) (Fr.sub_cons (by kernel_rfl) (Fr.sub_cons (by kernel_rfl) (Fr.sub_nil _)))))))) ?_
                  refine n48 ?_
                  cases t70 with
                  | true =>
                    replace hF := ifB_t hF
                    refine W.cond_true (by kernel_rfl) (by kernel_rfl) ?_
                    refine W.seqK (by kernel_rfl) (fun K59 n59 e59 r59 p59 => ?_)
                    refine W.region (by kernel_rfl) ?_
                    refine WL.val (d := (some 10)) (v := .bool false) (h' := h_56) (by kernel_rfl) (by kernel_rfl) (by kernel_rfl) ?_
                    refine WL.nil (by kernel_rfl) ?_
                    refine Go.weaken (l' := [(10, .bool false)]) (Fr.sub_cons (by kernel_rfl) (Fr.sub_nil _)) ?_
                    refine n59 ?_
                    refine W.ret (by kernel_rfl) ?_
                    refine r47 ?_
                    obtain ⟨hF, hF2⟩ := ret_inj hF; subst hF; subst hF2
                    exact leave_of (rs := [.tmp 10]) (vs := [.bool false]) (by kernel_rfl) (res_tmp (by kernel_rfl) res_nil) (by kernel_rfl)
                  | false =>
                    replace hF := ifB_f hF
                    refine W.cond_false (by kernel_rfl) (by kernel_rfl) ?_
                    refine W.skip (by kernel_rfl) ?_
                    refine n47 ?_
                    refine W.seqK (by kernel_rfl) (fun K60 n60 e60 r60 p60 => ?_)
                    refine W.region (by kernel_rfl) ?_
                    refine WL.val (d := (some 71)) (v := v48) (h' := h_56) (by kernel_rfl) (by kernel_rfl) (by kernel_rfl) ?_
                    refine WL.val (d := (some 72)) (v := .int .i64 t1) (h' := h_56) (by kernel_rfl) (by kernel_rfl) (by kernel_rfl) ?_
                    replace hF := callN_some hF; obtain ⟨r73, h_61, e62, hF⟩ := hF
                    replace hF := obind_some hF; obtain ⟨t73, c63, hF⟩ := hF
                    have c63 := avInt_some c63
                    subst c63
                    refine WL.call (hc.ok w0) (d := (some 73)) (by kernel_rfl) (by kernel_rfl) (by kernel_rfl) e62 ?_
                    refine WL.nil (by kernel_rfl) ?_
                    refine Go.weaken (l' := [(0, .int .i64 t0), (1, .int .i64 t1), (4, t4), (11, .int .i64 t26), (13, v48), (15, v55)]) (Fr.sub_cons (by kernel_rfl) (Fr.sub_cons (by kernel_rfl) (Fr.sub_cons (by kernel_rfl) (Fr.sub_cons (by kernel_rfl) (Fr.sub_cons (by kernel_rfl) (Fr.sub_cons (by kernel_rfl) (Fr.sub_nil _))))))) ?_
                    refine n60 ?_
                    refine W.seqK (by kernel_rfl) (fun K64 n64 e64 r64 p64 => ?_)
                    refine W.region (by kernel_rfl) ?_
                    refine WL.val (d := (some 74)) (v := v55) (h' := h_61) (by kernel_rfl) (by kernel_rfl) (by kernel_rfl) ?_
                    refine WL.val (d := (some 75)) (v := .int .i64 t1) (h' := h_61) (by kernel_rfl) (by kernel_rfl) (by kernel_rfl) ?_
                    replace hF := callN_some hF; obtain ⟨r76, h_65, e66, hF⟩ := hF
                    replace hF := obind_some hF; obtain ⟨t76, c67, hF⟩ := hF
                    have c67 := avInt_some c67
                    subst c67
                    refine WL.call (hc.ok w0) (d := (some 76)) (by kernel_rfl) (by kernel_rfl) (by kernel_rfl) e66 ?_
                    refine WL.nil (by kernel_rfl) ?_
                    refine Go.weaken (l' := [(0, .int .i64 t0), (4, t4), (11, .int .i64 t26), (13, v48), (15, v55)]) (Fr.sub_cons (by kernel_rfl) (Fr.sub_cons (by kernel_rfl) (Fr.sub_cons (by kernel_rfl) (Fr.sub_cons (by kernel_rfl) (Fr.sub_cons (by kernel_rfl) (Fr.sub_nil _)))))) ?_
                    refine n64 ?_
                    refine W.seqK (by kernel_rfl) (fun K68 n68 e68 r68 p68 => ?_)
                    refine W.region (by kernel_rfl) ?_
                    refine WL.val (d := (some 77)) (v := v48) (h' := h_65) (by kernel_rfl) (by kernel_rfl) (by kernel_rfl) ?_
                    replace hF := callN_some hF; obtain ⟨r78, h_69, e70, hF⟩ := hF
                    replace hF := obind_some hF; obtain ⟨t78, c71, hF⟩ := hF
                    have c71 := avInt_some c71
                    subst c71
                    refine WL.call (hc.ok w0) (d := (some 78)) (by kernel_rfl) (by kernel_rfl) (by kernel_rfl) e70 ?_
                    refine WL.val (d := (some 79)) (v := v55) (h' := h_69) (by kernel_rfl) (by kernel_rfl) (by kernel_rfl) ?_
                    replace hF := callN_some hF; obtain ⟨r80, h_72, e73, hF⟩ := hF
                    replace hF := obind_some hF; obtain ⟨t80, c74, hF⟩ := hF
                    have c74 := avInt_some c74
                    subst c74
                    refine WL.call (hc.ok w0) (d := (some 80)) (by kernel_rfl) (by kernel_rfl) (by kernel_rfl) e73 ?_
                    refine WL.val (d := (some 17)) (v := .int .i64 t78) (h' := h_72) (by kernel_rfl) (by kernel_rfl) (by kernel_rfl) ?_
                    refine WL.val (d := (some 18)) (v := .int .i64 t80) (h' := h_72) (by kernel_rfl) (by kernel_rfl) (by kernel_rfl) ?_
                    refine WL.nil (by kernel_rfl) ?_
                    refine Go.weaken (l' := [(0, .int .i64 t0), (4, t4), (11, .int .i64 t26), (13, v48), (15, v55), (17, .int .i64 t78), (18, .int .i64 t80)]) (Fr.sub_cons (by kernel_rfl) (Fr.sub_cons (by kernel_rfl) (Fr.sub_cons (by kernel_rfl) (Fr.sub_cons (by kernel_rfl) (Fr.sub_cons (by kernel_rfl) (Fr.sub_cons (by kernel_rfl) (Fr.sub_cons (by kernel_rfl) (Fr.sub_nil _)))))))) ?_
                    refine n68 ?_
                    refine W.seqK (by kernel_rfl) (fun K75 n75 e75 r75 p75 => ?_)
                    refine W.seqK (by kernel_rfl) (fun K76 n76 e76 r76 p76 => ?_)
                    refine W.region (by kernel_rfl) ?_
                    refine WL.val (d := (some 81)) (v := t4) (h' := h_72) (by kernel_rfl) (by kernel_rfl) (by kernel_rfl) ?_
                    replace hF := obind_some hF; obtain ⟨t82, e77, hF⟩ := hF
                    refine WL.val (d := (some 82)) (v := .int .i64 t82) (h' := h_72) (by kernel_rfl) (by kernel_rfl) (Eq.trans (by kernel_rfl) (len_row (P := Try.prog) (h := h_72) (t := 42) (e' := 50) (by kernel_rfl) e77)) ?_
                    refine WL.val (d := (some 83)) (v := .int .i64 0) (h' := h_72) (by kernel_rfl) (by kernel_rfl) (by kernel_rfl) ?_
                    refine WL.nil (by kernel_rfl) ?_
                    refine Go.weaken (l' := [(0, .int .i64 t0), (11, .int .i64 t26), (13, v48), (15, v55), (17, .int .i64 t78), (18, .int .i64 t80), (81, t4), (82, .int .i64 t82), (83, .int .i64 0)]) (Fr.sub_cons (by kernel_rfl) (Fr.sub_cons (by kernel_rfl) (Fr.sub_cons (by kernel_rfl) (Fr.sub_cons (by kernel_rfl) (Fr.sub_cons (by kernel_rfl) (Fr.sub_cons (by kernel_rfl) (Fr.sub_cons (by kernel_rfl) (Fr.sub_cons (by kernel_rfl) (Fr.sub_cons (by kernel_rfl) (Fr.sub_nil _)))))))))) ?_
                    refine n76 ?_
                    replace hF := lett_some hF; obtain ⟨k79, e79, hF⟩ := hF
                    have J79 : ∀  (h_80 : AHeap), k79 h_80 = some (rR, hR) → Go w0 m0 (Func.ntmps Try.f6) (K75 .normal) [] [] h_80 := by
                      intro  h_80 hF
                      rw [e79] at hF
                      refine n75 ?_
                      refine W.seqK (by kernel_rfl) (fun K81 n81 e81 r81 p81 => ?_)
                      refine W.region (by kernel_rfl) ?_
                      refine WL.val (d := (some 10)) (v := .bool true) (h' := h_80) (by kernel_rfl) (by kernel_rfl) (by kernel_rfl) ?_
                      refine WL.nil (by kernel_rfl) ?_
                      refine Go.weaken (l' := [(10, .bool true)]) (Fr.sub_cons (by kernel_rfl) (Fr.sub_nil _)) ?_
                      refine n81 ?_
                      refine W.ret (by kernel_rfl) ?_
                      obtain ⟨hF, hF2⟩ := ret_inj hF; subst hF; subst hF2
                      exact leave_of (rs := [.tmp 10]) (vs := [.bool true]) (by kernel_rfl) (res_tmp (by kernel_rfl) res_nil) (by kernel_rfl)
                    refine W.blockK (by kernel_rfl) (fun K78 n78 s78 o78 r78 p78 => ?_)
                    refine W.loopK (by kernel_rfl) (fun I82 K82 b82 n82 e82 r82 p82 => ?_)
                    have L82 : ∀ (m : Nat) (t83 : Int) (h_83 : AHeap), law20_LeaseApart_L0 call n t0 t4 t26 v48 v55 t78 t80 t82 k79 m t83 h_83 = some (rR, hR) → Go w0 m0 (Func.ntmps Try.f6) I82 [(0, .int .i64 t0), (11, .int .i64 t26), (13, v48), (15, v55), (17, .int .i64 t78), (18, .int .i64 t80), (81, t4), (82, .int .i64 t82), (83, .int .i64 t83)] [] h_83 := by
                      intro m
                      induction m with
                      | zero => intro t83 h_83 hF; cases hF
                      | succ m ih82 =>
                        intro t83 h_83 hF
                        rw [law20_LeaseApart_L0_s] at hF; unfold law20_LeaseApart_L0b at hF
                        refine b82 ?_
                        refine W.seqK (by kernel_rfl) (fun K84 n84 e84 r84 p84 => ?_)
                        refine W.region (by kernel_rfl) ?_
                        replace hF := lett_some hF; obtain ⟨t84, e85, hF⟩ := hF
                        refine WL.val (d := (some 84)) (v := .bool t84) (h' := h_83) (by kernel_rfl) (by kernel_rfl) (val_of AV.bool e85 (by kernel_rfl)) ?_
                        refine WL.nil (by kernel_rfl) ?_
                        refine Go.weaken (l' := [(0, .int .i64 t0), (11, .int .i64 t26), (13, v48), (15, v55), (17, .int .i64 t78), (18, .int .i64 t80), (81, t4), (82, .int .i64 t82), (83, .int .i64 t83), (84, .bool t84)]) (Fr.sub_cons (by kernel_rfl) (Fr.sub_cons (by kernel_rfl) (Fr.sub_cons (by kernel_rfl) (Fr.sub_cons (by kernel_rfl) (Fr.sub_cons (by kernel_rfl) (Fr.sub_cons (by kernel_rfl) (Fr.sub_cons (by kernel_rfl) (Fr.sub_cons (by kernel_rfl) (Fr.sub_cons (by kernel_rfl) (Fr.sub_cons (by kernel_rfl) (Fr.sub_nil _))))))))))) ?_
                        refine n84 ?_
                        refine W.seqK (by kernel_rfl) (fun K86 n86 e86 r86 p86 => ?_)
                        cases t84 with
                        | true =>
                          replace hF := ifB_t hF
                          refine W.cond_true (by kernel_rfl) (by kernel_rfl) ?_
                          refine W.skip (by kernel_rfl) ?_
                          refine n86 ?_
                          refine W.seqK (by kernel_rfl) (fun K87 n87 e87 r87 p87 => ?_)
                          replace hF := lett_some hF; obtain ⟨k89, e89, hF⟩ := hF
                          have J89 : ∀  (h_90 : AHeap), k89 h_90 = some (rR, hR) → Go w0 m0 (Func.ntmps Try.f6) (K87 .normal) [(0, .int .i64 t0), (11, .int .i64 t26), (13, v48), (15, v55), (17, .int .i64 t78), (18, .int .i64 t80), (81, t4), (82, .int .i64 t82), (83, .int .i64 t83)] [] h_90 := by
                            intro  h_90 hF
                            rw [e89] at hF
                            refine n87 ?_
                            refine W.region (by kernel_rfl) ?_
                            replace hF := lett_some hF; obtain ⟨t133, e91, hF⟩ := hF
                            refine WL.val (d := (some 133)) (v := .int .i64 t133) (h' := h_90) (by kernel_rfl) (by kernel_rfl) (val_of (AV.int .i64) e91 (by kernel_rfl)) ?_
                            refine WL.val (d := (some 83)) (v := .int .i64 t133) (h' := h_90) (by kernel_rfl) (by kernel_rfl) (by kernel_rfl) ?_
                            refine WL.nil (by kernel_rfl) ?_
                            refine Go.weaken (l' := [(0, .int .i64 t0), (11, .int .i64 t26), (13, v48), (15, v55), (17, .int .i64 t78), (18, .int .i64 t80), (81, t4), (82, .int .i64 t82), (83, .int .i64 t133)]) (Fr.sub_cons (by kernel_rfl) (Fr.sub_cons (by kernel_rfl) (Fr.sub_cons (by kernel_rfl) (Fr.sub_cons (by kernel_rfl) (Fr.sub_cons (by kernel_rfl) (Fr.sub_cons (by kernel_rfl) (Fr.sub_cons (by kernel_rfl) (Fr.sub_cons (by kernel_rfl) (Fr.sub_cons (by kernel_rfl) (Fr.sub_nil _)))))))))) ?_
                            refine n82 ?_
                            exact Go.weaken (Fr.sub_cons (by kernel_rfl) (Fr.sub_cons (by kernel_rfl) (Fr.sub_cons (by kernel_rfl) (Fr.sub_cons (by kernel_rfl) (Fr.sub_cons (by kernel_rfl) (Fr.sub_cons (by kernel_rfl) (Fr.sub_cons (by kernel_rfl) (Fr.sub_cons (by kernel_rfl) (Fr.sub_cons (by kernel_rfl) (Fr.sub_nil _)))))))))) (ih82 _ _ hF)
                          refine W.blockK (by kernel_rfl) (fun K88 n88 s88 o88 r88 p88 => ?_)
                          refine W.seqK (by kernel_rfl) (fun K92 n92 e92 r92 p92 => ?_)
                          refine W.region (by kernel_rfl) ?_
                          replace hF := obind_some hF; obtain ⟨t85, e93, hF⟩ := hF
                          refine WL.val (d := (some 85)) (v := t85) (h' := h_83) (by kernel_rfl) (by kernel_rfl) (Eq.trans (by kernel_rfl) (index_row (P := Try.prog) (h := h_83) (t := 42) (e' := 50) (k := .i64) (by kernel_rfl) (by kernel_rfl) (by kernel_rfl) e93)) ?_
                          replace hF := obind_some hF; obtain ⟨t86, e94, hF⟩ := hF
                          refine WL.val (d := (some 86)) (v := .agg t86) (h' := h_83) (by kernel_rfl) (by kernel_rfl) (Eq.trans (by kernel_rfl) (load_row (P := Try.prog) (h := h_83) (t := 50) (by kernel_rfl) (by kernel_rfl) e94)) ?_
                          replace hF := lett_some hF; obtain ⟨h_95, e96, hF⟩ := hF
                          refine WL.val (d := (some 20)) (v := (newP h_83)) (h' := h_95) (by kernel_rfl) (by kernel_rfl) (val_ofH e96 (by kernel_rfl)) ?_
                          replace hF := obind_some hF; obtain ⟨h_97, e98, hF⟩ := hF
                          refine WL.eff (h' := h_97) (by kernel_rfl) (by kernel_rfl) (Eq.trans (by kernel_rfl) (store_row (P := Try.prog) (h := h_95) (t := 50) (v := (.agg t86)) (by kernel_rfl) (by kernel_rfl) e98)) ?_
                          refine WL.nil (by kernel_rfl) ?_
                          refine Go.weaken (l' := [(0, .int .i64 t0), (11, .int .i64 t26), (13, v48), (15, v55), (17, .int .i64 t78), (18, .int .i64 t80), (20, (newP h_83)), (81, t4), (82, .int .i64 t82), (83, .int .i64 t83)]) (Fr.sub_cons (by kernel_rfl) (Fr.sub_cons (by kernel_rfl) (Fr.sub_cons (by kernel_rfl) (Fr.sub_cons (by kernel_rfl) (Fr.sub_cons (by kernel_rfl) (Fr.sub_cons (by kernel_rfl) (Fr.sub_cons (by kernel_rfl) (Fr.sub_cons (by kernel_rfl) (Fr.sub_cons (by kernel_rfl) (Fr.sub_cons (by kernel_rfl) (Fr.sub_nil _))))))))))) ?_
                          refine n92 ?_
                          refine W.seqK (by kernel_rfl) (fun K99 n99 e99 r99 p99 => ?_)
                          refine W.seqK (by kernel_rfl) (fun K100 n100 e100 r100 p100 => ?_)
                          refine W.region (by kernel_rfl) ?_
                          refine WL.val (d := (some 87)) (v := (AV.ptr (AHeap.next h_83) 0)) (h' := h_97) (by kernel_rfl) (by kernel_rfl) (by kernel_rfl) ?_
                          replace hF := obind_some hF; obtain ⟨v88, e101, hF⟩ := hF
                          replace hF := obind_some hF; obtain ⟨t88, c102, hF⟩ := hF
                          have c102 := avInt_some c102
                          subst c102
                          refine WL.val (d := (some 88)) (v := .int .i64 t88) (h' := h_97) (by kernel_rfl) (by kernel_rfl) (Eq.trans (by kernel_rfl) (load_cell (P := Try.prog) (h := h_97) (t := 3) (by kernel_rfl) e101)) ?_
                          replace hF := lett_some hF; obtain ⟨t89, e103, hF⟩ := hF
                          refine WL.val (d := (some 89)) (v := .bool t89) (h' := h_97) (by kernel_rfl) (by kernel_rfl) (val_of AV.bool e103 (by kernel_rfl)) ?_
                          refine WL.val (d := (some 90)) (v := .bool t89) (h' := h_97) (by kernel_rfl) (by kernel_rfl) (by kernel_rfl) ?_
                          replace hF := lett_some hF; obtain ⟨j94, e105, hF⟩ := hF
                          have J106 : ∀ (t94 : Bool) (h_104 : AHeap), j94 t94 h_104 = some (rR, hR) → WL Try.prog w0 m0 (Func.ntmps Try.f6) (Code.ops (Code.p1 (Code.p1 (Code.p2 (Code.p1 (Code.p1 (Code.p2 (Code.p2 (Code.p1 (Code.p1 (Code.p2 (Code.p1 (Code.p2 (Code.p2 (Code.p2 (Code.p2 (Code.p2 (Code.p2 (Code.p2 (Code.p2 (Code.p2 (Code.p2 (codeOf Try.f6))))))))))))))))))))))) 8 K100 [(0, .int .i64 t0), (11, .int .i64 t26), (13, v48), (15, v55), (17, .int .i64 t78), (18, .int .i64 t80), (20, (newP h_83)), (81, t4), (82, .int .i64 t82), (83, .int .i64 t83), (94, .bool t94)] [] h_104 := by
                            intro t94 h_104 hF
                            rw [e105] at hF
                            refine WL.nil (by kernel_rfl) ?_
                            refine Go.weaken (l' := [(0, .int .i64 t0), (11, .int .i64 t26), (13, v48), (15, v55), (17, .int .i64 t78), (18, .int .i64 t80), (20, (newP h_83)), (81, t4), (82, .int .i64 t82), (83, .int .i64 t83), (94, .bool t94)]) (Fr.sub_cons (by kernel_rfl) (Fr.sub_cons (by kernel_rfl) (Fr.sub_cons (by kernel_rfl) (Fr.sub_cons (by kernel_rfl) (Fr.sub_cons (by kernel_rfl) (Fr.sub_cons (by kernel_rfl) (Fr.sub_cons (by kernel_rfl) (Fr.sub_cons (by kernel_rfl) (Fr.sub_cons (by kernel_rfl) (Fr.sub_cons (by kernel_rfl) (Fr.sub_cons (by kernel_rfl) (Fr.sub_nil _)))))))))))) ?_
                            refine n100 ?_
                            cases t94 with
                            | true =>
                              replace hF := ifB_t hF
                              refine W.cond_true (by kernel_rfl) (by kernel_rfl) ?_
                              refine W.exit (by kernel_rfl) ?_
                              refine e99 ?_
                              refine s88 (by kernel_rfl) ?_
                              exact Go.weaken (Fr.sub_cons (by kernel_rfl) (Fr.sub_cons (by kernel_rfl) (Fr.sub_cons (by kernel_rfl) (Fr.sub_cons (by kernel_rfl) (Fr.sub_cons (by kernel_rfl) (Fr.sub_cons (by kernel_rfl) (Fr.sub_cons (by kernel_rfl) (Fr.sub_cons (by kernel_rfl) (Fr.sub_cons (by kernel_rfl) (Fr.sub_nil _)))))))))) (J89 _ hF)
                            | false =>
                              replace hF := ifB_f hF
                              refine W.cond_false (by kernel_rfl) (by kernel_rfl) ?_
                              refine W.skip (by kernel_rfl) ?_
                              refine n99 ?_
                              refine W.seqK (by kernel_rfl) (fun K107 n107 e107 r107 p107 => ?_)
                              refine W.seqK (by kernel_rfl) (fun K108 n108 e108 r108 p108 => ?_)
                              refine W.region (by kernel_rfl) ?_
                              refine WL.val (d := (some 95)) (v := v48) (h' := h_104) (by kernel_rfl) (by kernel_rfl) (by kernel_rfl) ?_
                              refine WL.val (d := (some 96)) (v := (AV.ptr (AHeap.next h_83) 1)) (h' := h_104) (by kernel_rfl) (by kernel_rfl) (by kernel_rfl) ?_
                              replace hF := obind_some hF; obtain ⟨v97, e109, hF⟩ := hF
                              replace hF := obind_some hF; obtain ⟨t97, c110, hF⟩ := hF
                              have c110 := avInt_some c110
                              subst c110
                              refine WL.val (d := (some 97)) (v := .int .i64 t97) (h' := h_104) (by kernel_rfl) (by kernel_rfl) (Eq.trans (by kernel_rfl) (load_cell (P := Try.prog) (h := h_104) (t := 3) (by kernel_rfl) e109)) ?_
                              refine WL.val (d := (some 98)) (v := .int .i64 t0) (h' := h_104) (by kernel_rfl) (by kernel_rfl) (by kernel_rfl) ?_
                              replace hF := callN_some hF; obtain ⟨r99, h_111, e112, hF⟩ := hF
                              replace hF := obind_some hF; obtain ⟨t99, c113, hF⟩ := hF
                              have c113 := avInt_some c113
                              subst c113
                              refine WL.call (hc.ok w0) (d := (some 99)) (by kernel_rfl) (by kernel_rfl) (by kernel_rfl) e112 ?_
                              replace hF := callN_some hF; obtain ⟨r100, h_114, e115, hF⟩ := hF
                              replace hF := obind_some hF; obtain ⟨t100, c116, hF⟩ := hF
                              have c116 := avInt_some c116
                              subst c116
                              refine WL.call (hc.ok w0) (d := (some 100)) (by kernel_rfl) (by kernel_rfl) (by kernel_rfl) e115 ?_
                              replace hF := lett_some hF; obtain ⟨t101, e117, hF⟩ := hF
                              refine WL.val (d := (some 101)) (v := .bool t101) (h' := h_114) (by kernel_rfl) (by kernel_rfl) (val_of AV.bool e117 (by kernel_rfl)) ?_
                              refine WL.val (d := (some 102)) (v := .bool t101) (h' := h_114) (by kernel_rfl) (by kernel_rfl) (by kernel_rfl) ?_
                              replace hF := lett_some hF; obtain ⟨j110, e119, hF⟩ := hF
                              have J120 : ∀ (t110 : Bool) (h_118 : AHeap), j110 t110 h_118 = some (rR, hR) → WL Try.prog w0 m0 (Func.ntmps Try.f6) (Code.ops (Code.p1 (Code.p1 (Code.p2 (Code.p2 (Code.p1 (Code.p1 (Code.p2 (Code.p2 (Code.p1 (Code.p1 (Code.p2 (Code.p1 (Code.p2 (Code.p2 (Code.p2 (Code.p2 (Code.p2 (Code.p2 (Code.p2 (Code.p2 (Code.p2 (Code.p2 (codeOf Try.f6)))))))))))))))))))))))) 16 K108 [(0, .int .i64 t0), (11, .int .i64 t26), (13, v48), (15, v55), (17, .int .i64 t78), (18, .int .i64 t80), (20, (newP h_83)), (81, t4), (82, .int .i64 t82), (83, .int .i64 t83), (110, .bool t110)] [] h_118 := by
                                intro t110 h_118 hF
                                rw [e119] at hF
                                refine WL.nil (by kernel_rfl) ?_
                                refine Go.weaken (l' := [(0, .int .i64 t0), (11, .int .i64 t26), (13, v48), (15, v55), (17, .int .i64 t78), (18, .int .i64 t80), (20, (newP h_83)), (81, t4), (82, .int .i64 t82), (83, .int .i64 t83), (110, .bool t110)]) (Fr.sub_cons (by kernel_rfl) (Fr.sub_cons (by kernel_rfl) (Fr.sub_cons (by kernel_rfl) (Fr.sub_cons (by kernel_rfl) (Fr.sub_cons (by kernel_rfl) (Fr.sub_cons (by kernel_rfl) (Fr.sub_cons (by kernel_rfl) (Fr.sub_cons (by kernel_rfl) (Fr.sub_cons (by kernel_rfl) (Fr.sub_cons (by kernel_rfl) (Fr.sub_cons (by kernel_rfl) (Fr.sub_nil _)))))))))))) ?_
                                refine n108 ?_
                                cases t110 with
                                | true =>
                                  replace hF := ifB_t hF
                                  refine W.cond_true (by kernel_rfl) (by kernel_rfl) ?_
                                  refine W.seqK (by kernel_rfl) (fun K121 n121 e121 r121 p121 => ?_)
                                  refine W.region (by kernel_rfl) ?_
                                  refine WL.val (d := (some 10)) (v := .bool false) (h' := h_118) (by kernel_rfl) (by kernel_rfl) (by kernel_rfl) ?_
                                  refine WL.nil (by kernel_rfl) ?_
                                  refine Go.weaken (l' := [(10, .bool false)]) (Fr.sub_cons (by kernel_rfl) (Fr.sub_nil _)) ?_
                                  refine n121 ?_
                                  refine W.ret (by kernel_rfl) ?_
                                  refine r107 ?_
                                  refine r88 ?_
                                  refine r87 ?_
                                  refine r82 ?_
                                  refine r78 ?_
                                  refine r75 ?_
                                  obtain ⟨hF, hF2⟩ := ret_inj hF; subst hF; subst hF2
                                  exact leave_of (rs := [.tmp 10]) (vs := [.bool false]) (by kernel_rfl) (res_tmp (by kernel_rfl) res_nil) (by kernel_rfl)
                                | false =>
                                  replace hF := ifB_f hF
                                  refine W.cond_false (by kernel_rfl) (by kernel_rfl) ?_
                                  refine W.skip (by kernel_rfl) ?_
                                  refine n107 ?_
                                  refine W.seqK (by kernel_rfl) (fun K122 n122 e122 r122 p122 => ?_)
                                  refine W.region (by kernel_rfl) ?_
                                  refine WL.val (d := (some 111)) (v := (AV.ptr (AHeap.next h_83) 0)) (h' := h_118) (by kernel_rfl) (by kernel_rfl) (by kernel_rfl) ?_
                                  replace hF := obind_some hF; obtain ⟨v112, e123, hF⟩ := hF
                                  replace hF := obind_some hF; obtain ⟨t112, c124, hF⟩ := hF
                                  have c124 := avInt_some c124
                                  subst c124
                                  refine WL.val (d := (some 112)) (v := .int .i64 t112) (h' := h_118) (by kernel_rfl) (by kernel_rfl) (Eq.trans (by kernel_rfl) (load_cell (P := Try.prog) (h := h_118) (t := 3) (by kernel_rfl) e123)) ?_
                                  refine WL.val (d := (some 113)) (v := .int .i64 0) (h' := h_118) (by kernel_rfl) (by kernel_rfl) (by kernel_rfl) ?_
                                  refine WL.nil (by kernel_rfl) ?_
                                  refine Go.weaken (l' := [(0, .int .i64 t0), (11, .int .i64 t26), (13, v48), (15, v55), (17, .int .i64 t78), (18, .int .i64 t80), (81, t4), (82, .int .i64 t82), (83, .int .i64 t83), (112, .int .i64 t112), (113, .int .i64 0)]) (Fr.sub_cons (by kernel_rfl) (Fr.sub_cons (by kernel_rfl) (Fr.sub_cons (by kernel_rfl) (Fr.sub_cons (by kernel_rfl) (Fr.sub_cons (by kernel_rfl) (Fr.sub_cons (by kernel_rfl) (Fr.sub_cons (by kernel_rfl) (Fr.sub_cons (by kernel_rfl) (Fr.sub_cons (by kernel_rfl) (Fr.sub_cons (by kernel_rfl) (Fr.sub_cons (by kernel_rfl) (Fr.sub_nil _)))))))))))) ?_
                                  refine n122 ?_
                                  replace hF := lett_some hF; obtain ⟨k126, e126, hF⟩ := hF
                                  have J126 : ∀  (h_127 : AHeap), k126 h_127 = some (rR, hR) → Go w0 m0 (Func.ntmps Try.f6) (K88 .normal) [(0, .int .i64 t0), (11, .int .i64 t26), (13, v48), (15, v55), (17, .int .i64 t78), (18, .int .i64 t80), (81, t4), (82, .int .i64 t82), (83, .int .i64 t83)] [] h_127 := by
                                    intro  h_127 hF
                                    rw [e126] at hF
                                    refine n88 ?_
                                    exact Go.weaken (Fr.sub_cons (by kernel_rfl) (Fr.sub_cons (by kernel_rfl) (Fr.sub_cons (by kernel_rfl) (Fr.sub_cons (by kernel_rfl) (Fr.sub_cons (by kernel_rfl) (Fr.sub_cons (by kernel_rfl) (Fr.sub_cons (by kernel_rfl) (Fr.sub_cons (by kernel_rfl) (Fr.sub_cons (by kernel_rfl) (Fr.sub_nil _)))))))))) (J89 _ hF)
                                  refine W.blockK (by kernel_rfl) (fun K125 n125 s125 o125 r125 p125 => ?_)
                                  refine W.loopK (by kernel_rfl) (fun I128 K128 b128 n128 e128 r128 p128 => ?_)
                                  have L128 : ∀ (m : Nat) (t113 : Int) (h_129 : AHeap), law20_LeaseApart_L1 call t26 v48 v55 t78 t80 t112 k126 m t113 h_129 = some (rR, hR) → Go w0 m0 (Func.ntmps Try.f6) I128 [(0, .int .i64 t0), (11, .int .i64 t26), (13, v48), (15, v55), (17, .int .i64 t78), (18, .int .i64 t80), (81, t4), (82, .int .i64 t82), (83, .int .i64 t83), (112, .int .i64 t112), (113, .int .i64 t113)] [] h_129 := by
                                    intro m
                                    induction m with
                                    | zero => intro t113 h_129 hF; cases hF
                                    | succ m ih128 =>
                                      intro t113 h_129 hF
                                      rw [law20_LeaseApart_L1_s] at hF; unfold law20_LeaseApart_L1b at hF
                                      refine b128 ?_
                                      refine W.seqK (by kernel_rfl) (fun K130 n130 e130 r130 p130 => ?_)
                                      refine W.region (by kernel_rfl) ?_
                                      replace hF := lett_some hF; obtain ⟨t114, e131, hF⟩ := hF
                                      refine WL.val (d := (some 114)) (v := .bool t114) (h' := h_129) (by kernel_rfl) (by kernel_rfl) (val_of AV.bool e131 (by kernel_rfl)) ?_
                                      refine WL.nil (by kernel_rfl) ?_
                                      refine Go.weaken (l' := [(0, .int .i64 t0), (11, .int .i64 t26), (13, v48), (15, v55), (17, .int .i64 t78), (18, .int .i64 t80), (81, t4), (82, .int .i64 t82), (83, .int .i64 t83), (112, .int .i64 t112), (113, .int .i64 t113), (114, .bool t114)]) (Fr.sub_cons (by kernel_rfl) (Fr.sub_cons (by kernel_rfl) (Fr.sub_cons (by kernel_rfl) (Fr.sub_cons (by kernel_rfl) (Fr.sub_cons (by kernel_rfl) (Fr.sub_cons (by kernel_rfl) (Fr.sub_cons (by kernel_rfl) (Fr.sub_cons (by kernel_rfl) (Fr.sub_cons (by kernel_rfl) (Fr.sub_cons (by kernel_rfl) (Fr.sub_cons (by kernel_rfl) (Fr.sub_cons (by kernel_rfl) (Fr.sub_nil _))))))))))))) ?_
                                      refine n130 ?_
                                      refine W.seqK (by kernel_rfl) (fun K132 n132 e132 r132 p132 => ?_)
                                      cases t114 with
                                      | true =>
                                        replace hF := ifB_t hF
                                        refine W.cond_true (by kernel_rfl) (by kernel_rfl) ?_
                                        refine W.skip (by kernel_rfl) ?_
                                        refine n132 ?_
                                        refine W.seqK (by kernel_rfl) (fun K133 n133 e133 r133 p133 => ?_)
                                        refine W.blockK (by kernel_rfl) (fun K134 n134 s134 o134 r134 p134 => ?_)
                                        refine W.seqK (by kernel_rfl) (fun K135 n135 e135 r135 p135 => ?_)
                                        refine W.region (by kernel_rfl) ?_
                                        refine WL.val (d := (some 115)) (v := v48) (h' := h_129) (by kernel_rfl) (by kernel_rfl) (by kernel_rfl) ?_
                                        replace hF := callN_some hF; obtain ⟨r116, h_136, e137, hF⟩ := hF
                                        replace hF := obind_some hF; obtain ⟨t116, c138, hF⟩ := hF
                                        have c138 := avInt_some c138
                                        subst c138
                                        refine WL.call (hc.ok w0) (d := (some 116)) (by kernel_rfl) (by kernel_rfl) (by kernel_rfl) e137 ?_
                                        refine WL.nil (by kernel_rfl) ?_
                                        refine Go.weaken (l' := [(0, .int .i64 t0), (11, .int .i64 t26), (13, v48), (15, v55), (17, .int .i64 t78), (18, .int .i64 t80), (81, t4), (82, .int .i64 t82), (83, .int .i64 t83), (112, .int .i64 t112), (113, .int .i64 t113)]) (Fr.sub_cons (by kernel_rfl) (Fr.sub_cons (by kernel_rfl) (Fr.sub_cons (by kernel_rfl) (Fr.sub_cons (by kernel_rfl) (Fr.sub_cons (by kernel_rfl) (Fr.sub_cons (by kernel_rfl) (Fr.sub_cons (by kernel_rfl) (Fr.sub_cons (by kernel_rfl) (Fr.sub_cons (by kernel_rfl) (Fr.sub_cons (by kernel_rfl) (Fr.sub_cons (by kernel_rfl) (Fr.sub_nil _)))))))))))) ?_
                                        refine n135 ?_
                                        refine W.seqK (by kernel_rfl) (fun K139 n139 e139 r139 p139 => ?_)
                                        refine W.region (by kernel_rfl) ?_
                                        refine WL.val (d := (some 117)) (v := v55) (h' := h_136) (by kernel_rfl) (by kernel_rfl) (by kernel_rfl) ?_
                                        replace hF := callN_some hF; obtain ⟨r118, h_140, e141, hF⟩ := hF
                                        replace hF := obind_some hF; obtain ⟨t118, c142, hF⟩ := hF
                                        have c142 := avInt_some c142
                                        subst c142
                                        refine WL.call (hc.ok w0) (d := (some 118)) (by kernel_rfl) (by kernel_rfl) (by kernel_rfl) e141 ?_
                                        refine WL.nil (by kernel_rfl) ?_
                                        refine Go.weaken (l' := [(0, .int .i64 t0), (11, .int .i64 t26), (13, v48), (15, v55), (17, .int .i64 t78), (18, .int .i64 t80), (81, t4), (82, .int .i64 t82), (83, .int .i64 t83), (112, .int .i64 t112), (113, .int .i64 t113)]) (Fr.sub_cons (by kernel_rfl) (Fr.sub_cons (by kernel_rfl) (Fr.sub_cons (by kernel_rfl) (Fr.sub_cons (by kernel_rfl) (Fr.sub_cons (by kernel_rfl) (Fr.sub_cons (by kernel_rfl) (Fr.sub_cons (by kernel_rfl) (Fr.sub_cons (by kernel_rfl) (Fr.sub_cons (by kernel_rfl) (Fr.sub_cons (by kernel_rfl) (Fr.sub_cons (by kernel_rfl) (Fr.sub_nil _)))))))))))) ?_
                                        refine n139 ?_
                                        refine W.seqK (by kernel_rfl) (fun K143 n143 e143 r143 p143 => ?_)
                                        refine W.region (by kernel_rfl) ?_
                                        refine WL.val (d := (some 119)) (v := v48) (h' := h_140) (by kernel_rfl) (by kernel_rfl) (by kernel_rfl) ?_
                                        replace hF := callN_some hF; obtain ⟨r120, h_144, e145, hF⟩ := hF
                                        replace hF := obind_some hF; obtain ⟨t120, c146, hF⟩ := hF
                                        have c146 := avInt_some c146
                                        subst c146
                                        refine WL.call (hc.ok w0) (d := (some 120)) (by kernel_rfl) (by kernel_rfl) (by kernel_rfl) e145 ?_
                                        refine WL.val (d := (some 121)) (v := .int .i64 t78) (h' := h_144) (by kernel_rfl) (by kernel_rfl) (by kernel_rfl) ?_
                                        replace hF := lett_some hF; obtain ⟨t122, e147, hF⟩ := hF
                                        refine WL.val (d := (some 122)) (v := .int .i64 t122) (h' := h_144) (by kernel_rfl) (by kernel_rfl) (val_of (AV.int .i64) e147 (by kernel_rfl)) ?_
                                        refine WL.val (d := (some 123)) (v := .int .i64 t26) (h' := h_144) (by kernel_rfl) (by kernel_rfl) (by kernel_rfl) ?_
                                        replace hF := lett_some hF; obtain ⟨t124, e148, hF⟩ := hF
                                        refine WL.val (d := (some 124)) (v := .bool t124) (h' := h_144) (by kernel_rfl) (by kernel_rfl) (val_of AV.bool e148 (by kernel_rfl)) ?_
                                        refine WL.val (d := (some 125)) (v := .bool t124) (h' := h_144) (by kernel_rfl) (by kernel_rfl) (by kernel_rfl) ?_
                                        replace hF := lett_some hF; obtain ⟨j131, e150, hF⟩ := hF
                                        have J151 : ∀ (t131 : Bool) (h_149 : AHeap), j131 t131 h_149 = some (rR, hR) → WL Try.prog w0 m0 (Func.ntmps Try.f6) (Code.ops (Code.p1 (Code.p2 (Code.p2 (Code.p1 (Code.p1 (Code.p2 (Code.p2 (Code.p1 (Code.p1 (Code.p2 (Code.p2 (Code.p2 (Code.p2 (Code.p1 (Code.p1 (Code.p2 (Code.p2 (Code.p1 (Code.p1 (Code.p2 (Code.p1 (Code.p2 (Code.p2 (Code.p2 (Code.p2 (Code.p2 (Code.p2 (Code.p2 (Code.p2 (Code.p2 (Code.p2 (codeOf Try.f6))))))))))))))))))))))))))))))))) 13 K143 [(0, .int .i64 t0), (11, .int .i64 t26), (13, v48), (15, v55), (17, .int .i64 t78), (18, .int .i64 t80), (81, t4), (82, .int .i64 t82), (83, .int .i64 t83), (112, .int .i64 t112), (113, .int .i64 t113), (131, .bool t131)] [] h_149 := by
                                          intro t131 h_149 hF
                                          rw [e150] at hF
                                          refine WL.nil (by kernel_rfl) ?_
                                          refine Go.weaken (l' := [(0, .int .i64 t0), (11, .int .i64 t26), (13, v48), (15, v55), (17, .int .i64 t78), (18, .int .i64 t80), (81, t4), (82, .int .i64 t82), (83, .int .i64 t83), (112, .int .i64 t112), (113, .int .i64 t113), (131, .bool t131)]) (Fr.sub_cons (by kernel_rfl) (Fr.sub_cons (by kernel_rfl) (Fr.sub_cons (by kernel_rfl) (Fr.sub_cons (by kernel_rfl) (Fr.sub_cons (by kernel_rfl) (Fr.sub_cons (by kernel_rfl) (Fr.sub_cons (by kernel_rfl) (Fr.sub_cons (by kernel_rfl) (Fr.sub_cons (by kernel_rfl) (Fr.sub_cons (by kernel_rfl) (Fr.sub_cons (by kernel_rfl) (Fr.sub_cons (by kernel_rfl) (Fr.sub_nil _))))))))))))) ?_
                                          refine n143 ?_
                                          cases t131 with
                                          | true =>
                                            replace hF := ifB_t hF
                                            refine W.cond_true (by kernel_rfl) (by kernel_rfl) ?_
                                            refine W.seqK (by kernel_rfl) (fun K152 n152 e152 r152 p152 => ?_)
                                            refine W.region (by kernel_rfl) ?_
                                            refine WL.val (d := (some 10)) (v := .bool false) (h' := h_149) (by kernel_rfl) (by kernel_rfl) (by kernel_rfl) ?_
                                            refine WL.nil (by kernel_rfl) ?_
                                            refine Go.weaken (l' := [(10, .bool false)]) (Fr.sub_cons (by kernel_rfl) (Fr.sub_nil _)) ?_
                                            refine n152 ?_
                                            refine W.ret (by kernel_rfl) ?_
                                            refine r134 ?_
                                            refine r133 ?_
                                            refine r128 ?_
                                            refine r125 ?_
                                            refine r88 ?_
                                            refine r87 ?_
                                            refine r82 ?_
                                            refine r78 ?_
                                            refine r75 ?_
                                            obtain ⟨hF, hF2⟩ := ret_inj hF; subst hF; subst hF2
                                            exact leave_of (rs := [.tmp 10]) (vs := [.bool false]) (by kernel_rfl) (res_tmp (by kernel_rfl) res_nil) (by kernel_rfl)
                                          | false =>
                                            replace hF := ifB_f hF
                                            refine W.cond_false (by kernel_rfl) (by kernel_rfl) ?_
                                            refine W.skip (by kernel_rfl) ?_
                                            refine n134 ?_
                                            refine n133 ?_
                                            refine W.region (by kernel_rfl) ?_
                                            replace hF := lett_some hF; obtain ⟨t132, e153, hF⟩ := hF
                                            refine WL.val (d := (some 132)) (v := .int .i64 t132) (h' := h_149) (by kernel_rfl) (by kernel_rfl) (val_of (AV.int .i64) e153 (by kernel_rfl)) ?_
                                            refine WL.val (d := (some 113)) (v := .int .i64 t132) (h' := h_149) (by kernel_rfl) (by kernel_rfl) (by kernel_rfl) ?_
                                            refine WL.nil (by kernel_rfl) ?_
                                            refine Go.weaken (l' := [(0, .int .i64 t0), (11, .int .i64 t26), (13, v48), (15, v55), (17, .int .i64 t78), (18, .int .i64 t80), (81, t4), (82, .int .i64 t82), (83, .int .i64 t83), (112, .int .i64 t112), (113, .int .i64 t132)]) (Fr.sub_cons (by kernel_rfl) (Fr.sub_cons (by kernel_rfl) (Fr.sub_cons (by kernel_rfl) (Fr.sub_cons (by kernel_rfl) (Fr.sub_cons (by kernel_rfl) (Fr.sub_cons (by kernel_rfl) (Fr.sub_cons (by kernel_rfl) (Fr.sub_cons (by kernel_rfl) (Fr.sub_cons (by kernel_rfl) (Fr.sub_cons (by kernel_rfl) (Fr.sub_cons (by kernel_rfl) (Fr.sub_nil _)))))))))))) ?_
                                            refine n128 ?_
                                            exact Go.weaken (Fr.sub_cons (by kernel_rfl) (Fr.sub_cons (by kernel_rfl) (Fr.sub_cons (by kernel_rfl) (Fr.sub_cons (by kernel_rfl) (Fr.sub_cons (by kernel_rfl) (Fr.sub_cons (by kernel_rfl) (Fr.sub_cons (by kernel_rfl) (Fr.sub_cons (by kernel_rfl) (Fr.sub_cons (by kernel_rfl) (Fr.sub_cons (by kernel_rfl) (Fr.sub_cons (by kernel_rfl) (Fr.sub_nil _)))))))))))) (ih128 _ _ hF)
                                        cases t124 with
                                        | true =>
                                          replace hF := ifB_t hF
                                          refine WL.val (d := (some 126)) (v := v55) (h' := h_144) (by kernel_rfl) (by kernel_rfl) (by kernel_rfl) ?_
                                          replace hF := callN_some hF; obtain ⟨r127, h_154, e155, hF⟩ := hF
                                          replace hF := obind_some hF; obtain ⟨t127, c156, hF⟩ := hF
                                          have c156 := avInt_some c156
                                          subst c156
                                          refine WL.call (hc.ok w0) (d := (some 127)) (by kernel_rfl) (by kernel_rfl) (by kernel_rfl) e155 ?_
                                          refine WL.val (d := (some 128)) (v := .int .i64 t80) (h' := h_154) (by kernel_rfl) (by kernel_rfl) (by kernel_rfl) ?_
                                          replace hF := lett_some hF; obtain ⟨t129, e157, hF⟩ := hF
                                          refine WL.val (d := (some 129)) (v := .int .i64 t129) (h' := h_154) (by kernel_rfl) (by kernel_rfl) (val_of (AV.int .i64) e157 (by kernel_rfl)) ?_
                                          replace hF := lett_some hF; obtain ⟨t130, e158, hF⟩ := hF
                                          refine WL.val (d := (some 130)) (v := .bool t130) (h' := h_154) (by kernel_rfl) (by kernel_rfl) (val_of AV.bool e158 (by kernel_rfl)) ?_
                                          refine WL.val (d := (some 131)) (v := .bool t130) (h' := h_154) (by kernel_rfl) (by kernel_rfl) (by kernel_rfl) ?_
                                          exact WL.weaken (Fr.sub_cons (by kernel_rfl) (Fr.sub_cons (by kernel_rfl) (Fr.sub_cons (by kernel_rfl) (Fr.sub_cons (by kernel_rfl) (Fr.sub_cons (by kernel_rfl) (Fr.sub_cons (by kernel_rfl) (Fr.sub_cons (by kernel_rfl) (Fr.sub_cons (by kernel_rfl) (Fr.sub_cons (by kernel_rfl) (Fr.sub_cons (by kernel_rfl) (Fr.sub_cons (by kernel_rfl) (Fr.sub_cons (by kernel_rfl) (Fr.sub_nil _))))))))))))) (J151 _ _ hF)
                                        | false =>
                                          replace hF := ifB_f hF
                                          refine WL.not (d := (some 126)) (by kernel_rfl) (by kernel_rfl) ?_
                                          refine WL.not (d := (some 127)) (by kernel_rfl) (by kernel_rfl) ?_
                                          refine WL.not (d := (some 128)) (by kernel_rfl) (by kernel_rfl) ?_
                                          refine WL.not (d := (some 129)) (by kernel_rfl) (by kernel_rfl) ?_
                                          refine WL.not (d := (some 130)) (by kernel_rfl) (by kernel_rfl) ?_
                                          refine WL.val (d := (some 131)) (v := .bool false) (h' := h_144) (by kernel_rfl) (by kernel_rfl) (by kernel_rfl) ?_
                                          exact WL.weaken (Fr.sub_cons (by kernel_rfl) (Fr.sub_cons (by kernel_rfl) (Fr.sub_cons (by kernel_rfl) (Fr.sub_cons (by kernel_rfl) (Fr.sub_cons (by kernel_rfl) (Fr.sub_cons (by kernel_rfl) (Fr.sub_cons (by kernel_rfl) (Fr.sub_cons (by kernel_rfl) (Fr.sub_cons (by kernel_rfl) (Fr.sub_cons (by kernel_rfl) (Fr.sub_cons (by kernel_rfl) (Fr.sub_cons (by kernel_rfl) (Fr.sub_nil _))))))))))))) (J151 _ _ hF)
                                      | false =>
                                        replace hF := ifB_f hF
                                        refine W.cond_false (by kernel_rfl) (by kernel_rfl) ?_
                                        refine W.exit (by kernel_rfl) ?_
                                        refine e132 ?_
                                        refine e128 ?_
                                        refine s125 (by kernel_rfl) ?_
                                        exact Go.weaken (Fr.sub_cons (by kernel_rfl) (Fr.sub_cons (by kernel_rfl) (Fr.sub_cons (by kernel_rfl) (Fr.sub_cons (by kernel_rfl) (Fr.sub_cons (by kernel_rfl) (Fr.sub_cons (by kernel_rfl) (Fr.sub_cons (by kernel_rfl) (Fr.sub_cons (by kernel_rfl) (Fr.sub_cons (by kernel_rfl) (Fr.sub_nil _)))))))))) (J126 _ hF)
                                  exact Go.weaken (Fr.sub_cons (by kernel_rfl) (Fr.sub_cons (by kernel_rfl) (Fr.sub_cons (by kernel_rfl) (Fr.sub_cons (by kernel_rfl) (Fr.sub_cons (by kernel_rfl) (Fr.sub_cons (by kernel_rfl) (Fr.sub_cons (by kernel_rfl) (Fr.sub_cons (by kernel_rfl) (Fr.sub_cons (by kernel_rfl) (Fr.sub_cons (by kernel_rfl) (Fr.sub_cons (by kernel_rfl) (Fr.sub_nil _)))))))))))) (L128 _ _ _ hF)
                              cases t101 with
                              | true =>
                                replace hF := ifB_t hF
                                refine WL.not (d := (some 103)) (by kernel_rfl) (by kernel_rfl) ?_
                                refine WL.not (d := (some 104)) (by kernel_rfl) (by kernel_rfl) ?_
                                refine WL.not (d := (some 105)) (by kernel_rfl) (by kernel_rfl) ?_
                                refine WL.not (d := (some 106)) (by kernel_rfl) (by kernel_rfl) ?_
                                refine WL.not (d := (some 107)) (by kernel_rfl) (by kernel_rfl) ?_
                                refine WL.not (d := (some 108)) (by kernel_rfl) (by kernel_rfl) ?_
                                refine WL.not (d := (some 109)) (by kernel_rfl) (by kernel_rfl) ?_
                                refine WL.val (d := (some 110)) (v := .bool true) (h' := h_114) (by kernel_rfl) (by kernel_rfl) (by kernel_rfl) ?_
                                exact WL.weaken (Fr.sub_cons (by kernel_rfl) (Fr.sub_cons (by kernel_rfl) (Fr.sub_cons (by kernel_rfl) (Fr.sub_cons (by kernel_rfl) (Fr.sub_cons (by kernel_rfl) (Fr.sub_cons (by kernel_rfl) (Fr.sub_cons (by kernel_rfl) (Fr.sub_cons (by kernel_rfl) (Fr.sub_cons (by kernel_rfl) (Fr.sub_cons (by kernel_rfl) (Fr.sub_cons (by kernel_rfl) (Fr.sub_nil _)))))))))))) (J120 _ _ hF)
                              | false =>
                                replace hF := ifB_f hF
                                refine WL.val (d := (some 103)) (v := v55) (h' := h_114) (by kernel_rfl) (by kernel_rfl) (by kernel_rfl) ?_
                                refine WL.val (d := (some 104)) (v := (AV.ptr (AHeap.next h_83) 2)) (h' := h_114) (by kernel_rfl) (by kernel_rfl) (by kernel_rfl) ?_
                                replace hF := obind_some hF; obtain ⟨v105, e159, hF⟩ := hF
                                replace hF := obind_some hF; obtain ⟨t105, c160, hF⟩ := hF
                                have c160 := avInt_some c160
                                subst c160
                                refine WL.val (d := (some 105)) (v := .int .i64 t105) (h' := h_114) (by kernel_rfl) (by kernel_rfl) (Eq.trans (by kernel_rfl) (load_cell (P := Try.prog) (h := h_114) (t := 3) (by kernel_rfl) e159)) ?_
                                refine WL.val (d := (some 106)) (v := .int .i64 t0) (h' := h_114) (by kernel_rfl) (by kernel_rfl) (by kernel_rfl) ?_
                                replace hF := callN_some hF; obtain ⟨r107, h_161, e162, hF⟩ := hF
                                replace hF := obind_some hF; obtain ⟨t107, c163, hF⟩ := hF
                                have c163 := avInt_some c163
                                subst c163
                                refine WL.call (hc.ok w0) (d := (some 107)) (by kernel_rfl) (by kernel_rfl) (by kernel_rfl) e162 ?_
                                replace hF := callN_some hF; obtain ⟨r108, h_164, e165, hF⟩ := hF
                                replace hF := obind_some hF; obtain ⟨t108, c166, hF⟩ := hF
                                have c166 := avInt_some c166
                                subst c166
                                refine WL.call (hc.ok w0) (d := (some 108)) (by kernel_rfl) (by kernel_rfl) (by kernel_rfl) e165 ?_
                                replace hF := lett_some hF; obtain ⟨t109, e167, hF⟩ := hF
                                refine WL.val (d := (some 109)) (v := .bool t109) (h' := h_164) (by kernel_rfl) (by kernel_rfl) (val_of AV.bool e167 (by kernel_rfl)) ?_
                                refine WL.val (d := (some 110)) (v := .bool t109) (h' := h_164) (by kernel_rfl) (by kernel_rfl) (by kernel_rfl) ?_
                                exact WL.weaken (Fr.sub_cons (by kernel_rfl) (Fr.sub_cons (by kernel_rfl) (Fr.sub_cons (by kernel_rfl) (Fr.sub_cons (by kernel_rfl) (Fr.sub_cons (by kernel_rfl) (Fr.sub_cons (by kernel_rfl) (Fr.sub_cons (by kernel_rfl) (Fr.sub_cons (by kernel_rfl) (Fr.sub_cons (by kernel_rfl) (Fr.sub_cons (by kernel_rfl) (Fr.sub_cons (by kernel_rfl) (Fr.sub_nil _)))))))))))) (J120 _ _ hF)
                          cases t89 with
                          | true =>
                            replace hF := ifB_t hF
                            refine WL.not (d := (some 91)) (by kernel_rfl) (by kernel_rfl) ?_
                            refine WL.not (d := (some 92)) (by kernel_rfl) (by kernel_rfl) ?_
                            refine WL.not (d := (some 93)) (by kernel_rfl) (by kernel_rfl) ?_
                            refine WL.val (d := (some 94)) (v := .bool true) (h' := h_97) (by kernel_rfl) (by kernel_rfl) (by kernel_rfl) ?_
                            exact WL.weaken (Fr.sub_cons (by kernel_rfl) (Fr.sub_cons (by kernel_rfl) (Fr.sub_cons (by kernel_rfl) (Fr.sub_cons (by kernel_rfl) (Fr.sub_cons (by kernel_rfl) (Fr.sub_cons (by kernel_rfl) (Fr.sub_cons (by kernel_rfl) (Fr.sub_cons (by kernel_rfl) (Fr.sub_cons (by kernel_rfl) (Fr.sub_cons (by kernel_rfl) (Fr.sub_cons (by kernel_rfl) (Fr.sub_nil _)))))))))))) (J106 _ _ hF)
                          | false =>
                            replace hF := ifB_f hF
                            refine WL.val (d := (some 91)) (v := (AV.ptr (AHeap.next h_83) 0)) (h' := h_97) (by kernel_rfl) (by kernel_rfl) (by kernel_rfl) ?_
                            replace hF := obind_some hF; obtain ⟨v92, e168, hF⟩ := hF
                            replace hF := obind_some hF; obtain ⟨t92, c169, hF⟩ := hF
                            have c169 := avInt_some c169
                            subst c169
                            refine WL.val (d := (some 92)) (v := .int .i64 t92) (h' := h_97) (by kernel_rfl) (by kernel_rfl) (Eq.trans (by kernel_rfl) (load_cell (P := Try.prog) (h := h_97) (t := 3) (by kernel_rfl) e168)) ?_
                            replace hF := lett_some hF; obtain ⟨t93, e170, hF⟩ := hF
                            refine WL.val (d := (some 93)) (v := .bool t93) (h' := h_97) (by kernel_rfl) (by kernel_rfl) (val_of AV.bool e170 (by kernel_rfl)) ?_
                            refine WL.val (d := (some 94)) (v := .bool t93) (h' := h_97) (by kernel_rfl) (by kernel_rfl) (by kernel_rfl) ?_
                            exact WL.weaken (Fr.sub_cons (by kernel_rfl) (Fr.sub_cons (by kernel_rfl) (Fr.sub_cons (by kernel_rfl) (Fr.sub_cons (by kernel_rfl) (Fr.sub_cons (by kernel_rfl) (Fr.sub_cons (by kernel_rfl) (Fr.sub_cons (by kernel_rfl) (Fr.sub_cons (by kernel_rfl) (Fr.sub_cons (by kernel_rfl) (Fr.sub_cons (by kernel_rfl) (Fr.sub_cons (by kernel_rfl) (Fr.sub_nil _)))))))))))) (J106 _ _ hF)
                        | false =>
                          replace hF := ifB_f hF
                          refine W.cond_false (by kernel_rfl) (by kernel_rfl) ?_
                          refine W.exit (by kernel_rfl) ?_
                          refine e86 ?_
                          refine e82 ?_
                          refine s78 (by kernel_rfl) ?_
                          exact Go.weaken (Fr.sub_nil _) (J79 _ hF)
                    exact Go.weaken (Fr.sub_cons (by kernel_rfl) (Fr.sub_cons (by kernel_rfl) (Fr.sub_cons (by kernel_rfl) (Fr.sub_cons (by kernel_rfl) (Fr.sub_cons (by kernel_rfl) (Fr.sub_cons (by kernel_rfl) (Fr.sub_cons (by kernel_rfl) (Fr.sub_cons (by kernel_rfl) (Fr.sub_cons (by kernel_rfl) (Fr.sub_nil _)))))))))) (L82 _ _ _ hF)
                cases t66 with
                | true =>
                  replace hF := ifB_t hF
                  refine WL.not (d := (some 68)) (by kernel_rfl) (by kernel_rfl) ?_
                  refine WL.not (d := (some 69)) (by kernel_rfl) (by kernel_rfl) ?_
                  refine WL.val (d := (some 70)) (v := .bool true) (h' := h_53) (by kernel_rfl) (by kernel_rfl) (by kernel_rfl) ?_
                  exact WL.weaken (Fr.sub_cons (by kernel_rfl) (Fr.sub_cons (by kernel_rfl) (Fr.sub_cons (by kernel_rfl) (Fr.sub_cons (by kernel_rfl) (Fr.sub_cons (by kernel_rfl) (Fr.sub_cons (by kernel_rfl) (Fr.sub_cons (by kernel_rfl) (Fr.sub_nil _)))))))) (J58 _ _ hF)
                | false =>
                  replace hF := ifB_f hF
                  refine WL.val (d := (some 68)) (v := v55) (h' := h_53) (by kernel_rfl) (by kernel_rfl) (by kernel_rfl) ?_
                  replace hF := outK_some hF; obtain ⟨v69, h_171, e172, hF⟩ := hF
                  replace hF := obind_some hF; obtain ⟨t69, c173, hF⟩ := hF
                  have c173 := avBool_some c173
                  subst c173
                  refine WL.val (d := (some 69)) (v := .bool t69) (h' := h_171) (by kernel_rfl) (by kernel_rfl) (Eq.trans (by kernel_rfl) e172) ?_
                  refine WL.val (d := (some 70)) (v := .bool t69) (h' := h_171) (by kernel_rfl) (by kernel_rfl) (by kernel_rfl) ?_
                  exact WL.weaken (Fr.sub_cons (by kernel_rfl) (Fr.sub_cons (by kernel_rfl) (Fr.sub_cons (by kernel_rfl) (Fr.sub_cons (by kernel_rfl) (Fr.sub_cons (by kernel_rfl) (Fr.sub_cons (by kernel_rfl) (Fr.sub_cons (by kernel_rfl) (Fr.sub_nil _)))))))) (J58 _ _ hF)
              cases t62 with
              | true =>
                replace hF := ifB_t hF
                refine WL.not (d := (some 64)) (by kernel_rfl) (by kernel_rfl) ?_
                refine WL.not (d := (some 65)) (by kernel_rfl) (by kernel_rfl) ?_
                refine WL.val (d := (some 66)) (v := .bool true) (h' := h_50) (by kernel_rfl) (by kernel_rfl) (by kernel_rfl) ?_
                exact WL.weaken (Fr.sub_cons (by kernel_rfl) (Fr.sub_cons (by kernel_rfl) (Fr.sub_cons (by kernel_rfl) (Fr.sub_cons (by kernel_rfl) (Fr.sub_cons (by kernel_rfl) (Fr.sub_cons (by kernel_rfl) (Fr.sub_cons (by kernel_rfl) (Fr.sub_nil _)))))))) (J55 _ _ hF)
              | false =>
                replace hF := ifB_f hF
                refine WL.val (d := (some 64)) (v := v48) (h' := h_50) (by kernel_rfl) (by kernel_rfl) (by kernel_rfl) ?_
                replace hF := outK_some hF; obtain ⟨v65, h_174, e175, hF⟩ := hF
                replace hF := obind_some hF; obtain ⟨t65, c176, hF⟩ := hF
                have c176 := avBool_some c176
                subst c176
                refine WL.val (d := (some 65)) (v := .bool t65) (h' := h_174) (by kernel_rfl) (by kernel_rfl) (Eq.trans (by kernel_rfl) e175) ?_
                refine WL.val (d := (some 66)) (v := .bool t65) (h' := h_174) (by kernel_rfl) (by kernel_rfl) (by kernel_rfl) ?_
                exact WL.weaken (Fr.sub_cons (by kernel_rfl) (Fr.sub_cons (by kernel_rfl) (Fr.sub_cons (by kernel_rfl) (Fr.sub_cons (by kernel_rfl) (Fr.sub_cons (by kernel_rfl) (Fr.sub_cons (by kernel_rfl) (Fr.sub_cons (by kernel_rfl) (Fr.sub_nil _)))))))) (J55 _ _ hF)
            cases t58 with
            | true =>
              replace hF := ifB_t hF
              refine WL.not (d := (some 60)) (by kernel_rfl) (by kernel_rfl) ?_
              refine WL.not (d := (some 61)) (by kernel_rfl) (by kernel_rfl) ?_
              refine WL.val (d := (some 62)) (v := .bool true) (h' := h_42) (by kernel_rfl) (by kernel_rfl) (by kernel_rfl) ?_
              exact WL.weaken (Fr.sub_cons (by kernel_rfl) (Fr.sub_cons (by kernel_rfl) (Fr.sub_cons (by kernel_rfl) (Fr.sub_cons (by kernel_rfl) (Fr.sub_cons (by kernel_rfl) (Fr.sub_cons (by kernel_rfl) (Fr.sub_cons (by kernel_rfl) (Fr.sub_nil _)))))))) (J52 _ _ hF)
            | false =>
              replace hF := ifB_f hF
              refine WL.val (d := (some 60)) (v := .int .i64 t56) (h' := h_42) (by kernel_rfl) (by kernel_rfl) (by kernel_rfl) ?_
              replace hF := lett_some hF; obtain ⟨t61, e177, hF⟩ := hF
              refine WL.val (d := (some 61)) (v := .bool t61) (h' := h_42) (by kernel_rfl) (by kernel_rfl) (val_of AV.bool e177 (by kernel_rfl)) ?_
              refine WL.val (d := (some 62)) (v := .bool t61) (h' := h_42) (by kernel_rfl) (by kernel_rfl) (by kernel_rfl) ?_
              exact WL.weaken (Fr.sub_cons (by kernel_rfl) (Fr.sub_cons (by kernel_rfl) (Fr.sub_cons (by kernel_rfl) (Fr.sub_cons (by kernel_rfl) (Fr.sub_cons (by kernel_rfl) (Fr.sub_cons (by kernel_rfl) (Fr.sub_cons (by kernel_rfl) (Fr.sub_nil _)))))))) (J52 _ _ hF)
        cases t38 with
        | true =>
          replace hF := ifB_t hF
          refine WL.not (d := (some 40)) (by kernel_rfl) (by kernel_rfl) ?_
          refine WL.not (d := (some 41)) (by kernel_rfl) (by kernel_rfl) ?_
          refine WL.val (d := (some 42)) (v := .bool true) (h' := h_22) (by kernel_rfl) (by kernel_rfl) (by kernel_rfl) ?_
          exact WL.weaken (Fr.sub_cons (by kernel_rfl) (Fr.sub_cons (by kernel_rfl) (Fr.sub_cons (by kernel_rfl) (Fr.sub_cons (by kernel_rfl) (Fr.sub_cons (by kernel_rfl) (Fr.sub_cons (by kernel_rfl) (Fr.sub_cons (by kernel_rfl) (Fr.sub_nil _)))))))) (J27 _ _ hF)
        | false =>
          replace hF := ifB_f hF
          refine WL.val (d := (some 40)) (v := .int .i64 t1) (h' := h_22) (by kernel_rfl) (by kernel_rfl) (by kernel_rfl) ?_
          replace hF := lett_some hF; obtain ⟨t41, e178, hF⟩ := hF
          refine WL.val (d := (some 41)) (v := .bool t41) (h' := h_22) (by kernel_rfl) (by kernel_rfl) (val_of AV.bool e178 (by kernel_rfl)) ?_
          refine WL.val (d := (some 42)) (v := .bool t41) (h' := h_22) (by kernel_rfl) (by kernel_rfl) (by kernel_rfl) ?_
          exact WL.weaken (Fr.sub_cons (by kernel_rfl) (Fr.sub_cons (by kernel_rfl) (Fr.sub_cons (by kernel_rfl) (Fr.sub_cons (by kernel_rfl) (Fr.sub_cons (by kernel_rfl) (Fr.sub_cons (by kernel_rfl) (Fr.sub_cons (by kernel_rfl) (Fr.sub_nil _)))))))) (J27 _ _ hF)
      cases t34 with
      | true =>
        replace hF := ifB_t hF
        refine WL.not (d := (some 36)) (by kernel_rfl) (by kernel_rfl) ?_
        refine WL.not (d := (some 37)) (by kernel_rfl) (by kernel_rfl) ?_
        refine WL.val (d := (some 38)) (v := .bool true) (h' := h_19) (by kernel_rfl) (by kernel_rfl) (by kernel_rfl) ?_
        exact WL.weaken (Fr.sub_cons (by kernel_rfl) (Fr.sub_cons (by kernel_rfl) (Fr.sub_cons (by kernel_rfl) (Fr.sub_cons (by kernel_rfl) (Fr.sub_cons (by kernel_rfl) (Fr.sub_cons (by kernel_rfl) (Fr.sub_cons (by kernel_rfl) (Fr.sub_nil _)))))))) (J24 _ _ hF)
      | false =>
        replace hF := ifB_f hF
        refine WL.val (d := (some 36)) (v := .int .i64 t1) (h' := h_19) (by kernel_rfl) (by kernel_rfl) (by kernel_rfl) ?_
        replace hF := lett_some hF; obtain ⟨t37, e179, hF⟩ := hF
        refine WL.val (d := (some 37)) (v := .bool t37) (h' := h_19) (by kernel_rfl) (by kernel_rfl) (val_of AV.bool e179 (by kernel_rfl)) ?_
        refine WL.val (d := (some 38)) (v := .bool t37) (h' := h_19) (by kernel_rfl) (by kernel_rfl) (by kernel_rfl) ?_
        exact WL.weaken (Fr.sub_cons (by kernel_rfl) (Fr.sub_cons (by kernel_rfl) (Fr.sub_cons (by kernel_rfl) (Fr.sub_cons (by kernel_rfl) (Fr.sub_cons (by kernel_rfl) (Fr.sub_cons (by kernel_rfl) (Fr.sub_cons (by kernel_rfl) (Fr.sub_nil _)))))))) (J24 _ _ hF)
    cases t29 with
    | true =>
      replace hF := ifB_t hF
      refine WL.not (d := (some 31)) (by kernel_rfl) (by kernel_rfl) ?_
      refine WL.not (d := (some 32)) (by kernel_rfl) (by kernel_rfl) ?_
      refine WL.not (d := (some 33)) (by kernel_rfl) (by kernel_rfl) ?_
      refine WL.val (d := (some 34)) (v := .bool true) (h' := h_10) (by kernel_rfl) (by kernel_rfl) (by kernel_rfl) ?_
      exact WL.weaken (Fr.sub_cons (by kernel_rfl) (Fr.sub_cons (by kernel_rfl) (Fr.sub_cons (by kernel_rfl) (Fr.sub_cons (by kernel_rfl) (Fr.sub_cons (by kernel_rfl) (Fr.sub_cons (by kernel_rfl) (Fr.sub_cons (by kernel_rfl) (Fr.sub_nil _)))))))) (J21 _ _ hF)
    | false =>
      replace hF := ifB_f hF
      refine WL.val (d := (some 31)) (v := t4) (h' := h_10) (by kernel_rfl) (by kernel_rfl) (by kernel_rfl) ?_
      replace hF := obind_some hF; obtain ⟨t32, e180, hF⟩ := hF
      refine WL.val (d := (some 32)) (v := .int .i64 t32) (h' := h_10) (by kernel_rfl) (by kernel_rfl) (Eq.trans (by kernel_rfl) (len_row (P := Try.prog) (h := h_10) (t := 42) (e' := 50) (by kernel_rfl) e180)) ?_
      replace hF := lett_some hF; obtain ⟨t33, e181, hF⟩ := hF
      refine WL.val (d := (some 33)) (v := .bool t33) (h' := h_10) (by kernel_rfl) (by kernel_rfl) (val_of AV.bool e181 (by kernel_rfl)) ?_
      refine WL.val (d := (some 34)) (v := .bool t33) (h' := h_10) (by kernel_rfl) (by kernel_rfl) (by kernel_rfl) ?_
      exact WL.weaken (Fr.sub_cons (by kernel_rfl) (Fr.sub_cons (by kernel_rfl) (Fr.sub_cons (by kernel_rfl) (Fr.sub_cons (by kernel_rfl) (Fr.sub_cons (by kernel_rfl) (Fr.sub_cons (by kernel_rfl) (Fr.sub_cons (by kernel_rfl) (Fr.sub_nil _)))))))) (J21 _ _ hF)
noncomputable def law20_LeaseApart_fn (call : CallF) (n : Nat) : FnT := fun args h => match args with
  | [x0, x1, x2, x3, x4] => obind (avInt .i64 x0) fun t0 => obind (avInt .i64 x1) fun t1 => obind (avInt .i64 x2) fun t2 => obind (avInt .i64 x3) fun t3 => law20_LeaseApart call n t0 t1 t2 t3 x4 h
  | _ => none
set_option maxRecDepth 100000 in
theorem law20_LeaseApart_fn_eq (call : CallF) (n : Nat) (t0 : Int) (t1 : Int) (t2 : Int) (t3 : Int) (t4 : AV) (h : AHeap) : law20_LeaseApart_fn call n [.int .i64 t0, .int .i64 t1, .int .i64 t2, .int .i64 t3, t4] h = law20_LeaseApart call n t0 t1 t2 t3 t4 h :=
  (Eq.trans (obind_eq (fun t0 => obind (avInt .i64 (.int .i64 t1)) fun t1 => obind (avInt .i64 (.int .i64 t2)) fun t2 => obind (avInt .i64 (.int .i64 t3)) fun t3 => law20_LeaseApart call n t0 t1 t2 t3 t4 h) (avInt_int .i64 t0)) (Eq.trans (obind_eq (fun t1 => obind (avInt .i64 (.int .i64 t2)) fun t2 => obind (avInt .i64 (.int .i64 t3)) fun t3 => law20_LeaseApart call n t0 t1 t2 t3 t4 h) (avInt_int .i64 t1)) (Eq.trans (obind_eq (fun t2 => obind (avInt .i64 (.int .i64 t3)) fun t3 => law20_LeaseApart call n t0 t1 t2 t3 t4 h) (avInt_int .i64 t2)) (Eq.trans (obind_eq (fun t3 => law20_LeaseApart call n t0 t1 t2 t3 t4 h) (avInt_int .i64 t3)) rfl))))
theorem law20_LeaseApart_holds {call : CallF} (hc : SaysAll Try.prog call) (n : Nat) : Holds Try.prog 6 (law20_LeaseApart_fn call n) := by
  intro args h r h2 e
  unfold law20_LeaseApart_fn at e
  split at e
  · replace e := obind_some e; obtain ⟨t0, c0, e⟩ := e; have c0 := avInt_some c0; subst c0
    replace e := obind_some e; obtain ⟨t1, c1, e⟩ := e; have c1 := avInt_some c1; subst c1
    replace e := obind_some e; obtain ⟨t2, c2, e⟩ := e; have c2 := avInt_some c2; subst c2
    replace e := obind_some e; obtain ⟨t3, c3, e⟩ := e; have c3 := avInt_some c3; subst c3
    exact law20_LeaseApart_ok hc e
  · cases e

noncomputable def clock_New (call : CallF) (_ : Nat) (t0 : Int) (h : AHeap) : R :=
  callN (call 22 [.int .i64 t0] h) fun r5 h_4 =>
  obind (avBool r5) fun t5 =>
  lett (!t5) fun (t6 : Bool) =>
  ifB t6
  (
    some (.ret (.tup [AV.nilp, .int .i64 5]), h_4))
  (
    outK (opBox h_4 59 (some (.agg ([.int .i64 t0, .int .i64 0] : List AV)))) fun v9 h_10 =>
    some (.ret (.tup [v9, .int .i64 0]), h_10))
set_option maxHeartbeats 4000000 in
set_option maxRecDepth 20000 in
theorem clock_New_ok {call : CallF} (hc : SaysAll Try.prog call) {n : Nat} {t0 : Int} {h : AHeap} {rR : ARes} {hR : AHeap} (hF : clock_New call n t0 h = some (rR, hR)) : Says Try.prog 15 [.int .i64 t0] h rR hR := by
  unfold clock_New at hF
  refine says_of (fn := Try.f15) Try.func15 (c := codeOf Try.f15) (by kernel_rfl) (by kernel_rfl) (fun w0 m0 => ?_)
  refine W.weaken (l' := [(0, .int .i64 t0)]) (Fr.sub_cons (by kernel_rfl) (Fr.sub_nil _)) ?_
  refine W.seqK (by kernel_rfl) (fun K1 n1 e1 r1 p1 => ?_)
  refine W.region (by kernel_rfl) ?_
  refine WL.val (d := (some 2)) (v := AV.nilp) (h' := h) (by kernel_rfl) (by kernel_rfl) (by kernel_rfl) ?_
  refine WL.val (d := (some 3)) (v := .int .i64 0) (h' := h) (by kernel_rfl) (by kernel_rfl) (by kernel_rfl) ?_
  refine WL.nil (by kernel_rfl) ?_
  refine Go.weaken (l' := [(0, .int .i64 t0)]) (Fr.sub_cons (by kernel_rfl) (Fr.sub_nil _)) ?_
  refine n1 ?_
  refine W.seqK (by kernel_rfl) (fun K2 n2 e2 r2 p2 => ?_)
  refine W.seqK (by kernel_rfl) (fun K3 n3 e3 r3 p3 => ?_)
  refine W.region (by kernel_rfl) ?_
  refine WL.val (d := (some 4)) (v := .int .i64 t0) (h' := h) (by kernel_rfl) (by kernel_rfl) (by kernel_rfl) ?_
  replace hF := callN_some hF; obtain ⟨r5, h_4, e5, hF⟩ := hF
  replace hF := obind_some hF; obtain ⟨t5, c6, hF⟩ := hF
  have c6 := avBool_some c6
  subst c6
  refine WL.call (hc.ok w0) (d := (some 5)) (by kernel_rfl) (by kernel_rfl) (by kernel_rfl) e5 ?_
  replace hF := lett_some hF; obtain ⟨t6, e7, hF⟩ := hF
  refine WL.val (d := (some 6)) (v := .bool t6) (h' := h_4) (by kernel_rfl) (by kernel_rfl) (val_of AV.bool e7 (by kernel_rfl)) ?_
  refine WL.nil (by kernel_rfl) ?_
  refine Go.weaken (l' := [(0, .int .i64 t0), (6, .bool t6)]) (Fr.sub_cons (by kernel_rfl) (Fr.sub_cons (by kernel_rfl) (Fr.sub_nil _))) ?_
  refine n3 ?_
  cases t6 with
  | true =>
    replace hF := ifB_t hF
    refine W.cond_true (by kernel_rfl) (by kernel_rfl) ?_
    refine W.seqK (by kernel_rfl) (fun K8 n8 e8 r8 p8 => ?_)
    refine W.region (by kernel_rfl) ?_
    refine WL.val (d := (some 2)) (v := AV.nilp) (h' := h_4) (by kernel_rfl) (by kernel_rfl) (by kernel_rfl) ?_
    refine WL.val (d := (some 3)) (v := .int .i64 5) (h' := h_4) (by kernel_rfl) (by kernel_rfl) (by kernel_rfl) ?_
    refine WL.nil (by kernel_rfl) ?_
    refine Go.weaken (l' := [(2, AV.nilp), (3, .int .i64 5)]) (Fr.sub_cons (by kernel_rfl) (Fr.sub_cons (by kernel_rfl) (Fr.sub_nil _))) ?_
    refine n8 ?_
    refine W.ret (by kernel_rfl) ?_
    refine r2 ?_
    obtain ⟨hF, hF2⟩ := ret_inj hF; subst hF; subst hF2
    exact leave_of (rs := [.tmp 2, .tmp 3]) (vs := [AV.nilp, .int .i64 5]) (by kernel_rfl) (res_tmp (by kernel_rfl) (res_tmp (by kernel_rfl) res_nil)) (by kernel_rfl)
  | false =>
    replace hF := ifB_f hF
    refine W.cond_false (by kernel_rfl) (by kernel_rfl) ?_
    refine W.skip (by kernel_rfl) ?_
    refine n2 ?_
    refine W.seqK (by kernel_rfl) (fun K9 n9 e9 r9 p9 => ?_)
    refine W.region (by kernel_rfl) ?_
    refine WL.val (d := (some 7)) (v := .int .i64 t0) (h' := h_4) (by kernel_rfl) (by kernel_rfl) (by kernel_rfl) ?_
    refine WL.val (d := (some 8)) (v := .agg ([.int .i64 t0, .int .i64 0] : List AV)) (h' := h_4) (by kernel_rfl) (by kernel_rfl) (by kernel_rfl) ?_
    replace hF := outK_some hF; obtain ⟨v9, h_10, e11, hF⟩ := hF
    refine WL.val (d := (some 9)) (v := v9) (h' := h_10) (by kernel_rfl) (by kernel_rfl) (Eq.trans (by kernel_rfl) e11) ?_
    refine WL.val (d := (some 2)) (v := v9) (h' := h_10) (by kernel_rfl) (by kernel_rfl) (by kernel_rfl) ?_
    refine WL.val (d := (some 3)) (v := .int .i64 0) (h' := h_10) (by kernel_rfl) (by kernel_rfl) (by kernel_rfl) ?_
    refine WL.nil (by kernel_rfl) ?_
    refine Go.weaken (l' := [(2, v9), (3, .int .i64 0)]) (Fr.sub_cons (by kernel_rfl) (Fr.sub_cons (by kernel_rfl) (Fr.sub_nil _))) ?_
    refine n9 ?_
    refine W.ret (by kernel_rfl) ?_
    obtain ⟨hF, hF2⟩ := ret_inj hF; subst hF; subst hF2
    exact leave_of (rs := [.tmp 2, .tmp 3]) (vs := [v9, .int .i64 0]) (by kernel_rfl) (res_tmp (by kernel_rfl) (res_tmp (by kernel_rfl) res_nil)) (by kernel_rfl)
noncomputable def clock_New_fn (call : CallF) (n : Nat) : FnT := fun args h => match args with
  | [x0] => obind (avInt .i64 x0) fun t0 => clock_New call n t0 h
  | _ => none
set_option maxRecDepth 100000 in
theorem clock_New_fn_eq (call : CallF) (n : Nat) (t0 : Int) (h : AHeap) : clock_New_fn call n [.int .i64 t0] h = clock_New call n t0 h :=
  (Eq.trans (obind_eq (fun t0 => clock_New call n t0 h) (avInt_int .i64 t0)) rfl)
theorem clock_New_holds {call : CallF} (hc : SaysAll Try.prog call) (n : Nat) : Holds Try.prog 15 (clock_New_fn call n) := by
  intro args h r h2 e
  unfold clock_New_fn at e
  split at e
  · replace e := obind_some e; obtain ⟨t0, c0, e⟩ := e; have c0 := avInt_some c0; subst c0
    exact clock_New_ok hc e
  · cases e

noncomputable def clock_Clock_Tick (call : CallF) (_ : Nat) (t0 : AV) (t1 : Int) (h : AHeap) : R :=
  outK (opBin Try.prog h .eql 43 true (some t0) (some AV.nilp)) fun v6 h_4 =>
  obind (avBool v6) fun t6 =>
  ifB t6
  (
    some (.ret (.int .i64 1), h_4))
  (
    lett (fun (t24 : Bool) (h_11 : AHeap) =>
      ifB t24
      (
        some (.ret (.int .i64 5), h_11))
      (
        obind (nilC t0) fun t26 =>
        obind (fldP 1 t26) fun t27 =>
        obind (ldCell h_11 t27) fun v28 =>
        obind (avInt .i64 v28) fun t28 =>
        obind (nilC t0) fun t31 =>
        obind (fldP 0 t31) fun t32 =>
        obind (ldCell h_11 t32) fun v33 =>
        obind (avInt .i64 v33) fun t33 =>
        lett (IntKind.i64.wrap (t1 * t33)) fun (t34 : Int) =>
        lett (IntKind.i64.wrap (t28 + t34)) fun (t35 : Int) =>
        obind (nilC t0) fun t36 =>
        obind (fldP 1 t36) fun t37 =>
        obind (stRow h_11 1 [.int .i64 t35] t37) fun h_26 =>
        some (.ret (.int .i64 0), h_26))) fun k10 =>
    callN (call 23 [.int .i64 t1] h_4) fun r8 h_29 =>
    obind (avBool r8) fun t8 =>
    lett (!t8) fun (t9 : Bool) =>
    ifB t9
    (
      k10 true h_29)
    (
      obind (nilC t0) fun t12 =>
      obind (fldP 1 t12) fun t13 =>
      obind (ldCell h_29 t13) fun v14 =>
      obind (avInt .i64 v14) fun t14 =>
      obind (nilC t0) fun t17 =>
      obind (fldP 0 t17) fun t18 =>
      obind (ldCell h_29 t18) fun v19 =>
      obind (avInt .i64 v19) fun t19 =>
      lett (IntKind.i64.wrap (t1 * t19)) fun (t20 : Int) =>
      lett (IntKind.i64.wrap (t14 + t20)) fun (t21 : Int) =>
      obind (quoI .i64 t21 1000) fun t22 =>
      lett (decide (t22 > 1125899906842624)) fun (t23 : Bool) =>
      k10 t23 h_29))
set_option maxHeartbeats 4000000 in
set_option maxRecDepth 20000 in
theorem clock_Clock_Tick_ok {call : CallF} (hc : SaysAll Try.prog call) {n : Nat} {t0 : AV} {t1 : Int} {h : AHeap} {rR : ARes} {hR : AHeap} (hF : clock_Clock_Tick call n t0 t1 h = some (rR, hR)) : Says Try.prog 17 [t0, .int .i64 t1] h rR hR := by
  unfold clock_Clock_Tick at hF
  refine says_of (fn := Try.f17) Try.func17 (c := codeOf Try.f17) (by kernel_rfl) (by kernel_rfl) (fun w0 m0 => ?_)
  refine W.weaken (l' := [(0, t0), (1, .int .i64 t1)]) (Fr.sub_cons (by kernel_rfl) (Fr.sub_cons (by kernel_rfl) (Fr.sub_nil _))) ?_
  refine W.seqK (by kernel_rfl) (fun K1 n1 e1 r1 p1 => ?_)
  refine W.region (by kernel_rfl) ?_
  refine WL.val (d := (some 4)) (v := .int .i64 0) (h' := h) (by kernel_rfl) (by kernel_rfl) (by kernel_rfl) ?_
  refine WL.nil (by kernel_rfl) ?_
  refine Go.weaken (l' := [(0, t0), (1, .int .i64 t1)]) (Fr.sub_cons (by kernel_rfl) (Fr.sub_cons (by kernel_rfl) (Fr.sub_nil _))) ?_
  refine n1 ?_
  refine W.seqK (by kernel_rfl) (fun K2 n2 e2 r2 p2 => ?_)
  refine W.seqK (by kernel_rfl) (fun K3 n3 e3 r3 p3 => ?_)
  refine W.region (by kernel_rfl) ?_
  refine WL.val (d := (some 5)) (v := t0) (h' := h) (by kernel_rfl) (by kernel_rfl) (by kernel_rfl) ?_
  replace hF := outK_some hF; obtain ⟨v6, h_4, e5, hF⟩ := hF
  replace hF := obind_some hF; obtain ⟨t6, c6, hF⟩ := hF
  have c6 := avBool_some c6
  subst c6
  refine WL.val (d := (some 6)) (v := .bool t6) (h' := h_4) (by kernel_rfl) (by kernel_rfl) (Eq.trans (by kernel_rfl) e5) ?_
  refine WL.nil (by kernel_rfl) ?_
  refine Go.weaken (l' := [(0, t0), (1, .int .i64 t1), (6, .bool t6)]) (Fr.sub_cons (by kernel_rfl) (Fr.sub_cons (by kernel_rfl) (Fr.sub_cons (by kernel_rfl) (Fr.sub_nil _)))) ?_
  refine n3 ?_
  cases t6 with
  | true =>
    replace hF := ifB_t hF
    refine W.cond_true (by kernel_rfl) (by kernel_rfl) ?_
    refine W.seqK (by kernel_rfl) (fun K7 n7 e7 r7 p7 => ?_)
    refine W.region (by kernel_rfl) ?_
    refine WL.val (d := (some 4)) (v := .int .i64 1) (h' := h_4) (by kernel_rfl) (by kernel_rfl) (by kernel_rfl) ?_
    refine WL.nil (by kernel_rfl) ?_
    refine Go.weaken (l' := [(4, .int .i64 1)]) (Fr.sub_cons (by kernel_rfl) (Fr.sub_nil _)) ?_
    refine n7 ?_
    refine W.ret (by kernel_rfl) ?_
    refine r2 ?_
    obtain ⟨hF, hF2⟩ := ret_inj hF; subst hF; subst hF2
    exact leave_of (rs := [.tmp 4]) (vs := [.int .i64 1]) (by kernel_rfl) (res_tmp (by kernel_rfl) res_nil) (by kernel_rfl)
  | false =>
    replace hF := ifB_f hF
    refine W.cond_false (by kernel_rfl) (by kernel_rfl) ?_
    refine W.skip (by kernel_rfl) ?_
    refine n2 ?_
    refine W.seqK (by kernel_rfl) (fun K8 n8 e8 r8 p8 => ?_)
    refine W.seqK (by kernel_rfl) (fun K9 n9 e9 r9 p9 => ?_)
    replace hF := lett_some hF; obtain ⟨k10, e10, hF⟩ := hF
    have J10 : ∀ (t24 : Bool) (h_11 : AHeap), k10 t24 h_11 = some (rR, hR) → Go w0 m0 (Func.ntmps Try.f17) (K9 .normal) [(0, t0), (1, .int .i64 t1), (24, .bool t24)] [] h_11 := by
      intro t24 h_11 hF
      rw [e10] at hF
      refine n9 ?_
      cases t24 with
      | true =>
        replace hF := ifB_t hF
        refine W.cond_true (by kernel_rfl) (by kernel_rfl) ?_
        refine W.seqK (by kernel_rfl) (fun K12 n12 e12 r12 p12 => ?_)
        refine W.region (by kernel_rfl) ?_
        refine WL.val (d := (some 4)) (v := .int .i64 5) (h' := h_11) (by kernel_rfl) (by kernel_rfl) (by kernel_rfl) ?_
        refine WL.nil (by kernel_rfl) ?_
        refine Go.weaken (l' := [(4, .int .i64 5)]) (Fr.sub_cons (by kernel_rfl) (Fr.sub_nil _)) ?_
        refine n12 ?_
        refine W.ret (by kernel_rfl) ?_
        refine r8 ?_
        obtain ⟨hF, hF2⟩ := ret_inj hF; subst hF; subst hF2
        exact leave_of (rs := [.tmp 4]) (vs := [.int .i64 5]) (by kernel_rfl) (res_tmp (by kernel_rfl) res_nil) (by kernel_rfl)
      | false =>
        replace hF := ifB_f hF
        refine W.cond_false (by kernel_rfl) (by kernel_rfl) ?_
        refine W.skip (by kernel_rfl) ?_
        refine n8 ?_
        refine W.seqK (by kernel_rfl) (fun K13 n13 e13 r13 p13 => ?_)
        refine W.draw (by kernel_rfl) (hc.ok w0) (plan := [0, 1, 2, 3, 4, 5, 6, 7, 8, 9, 10, 11, 12, 13]) (by kernel_rfl) (by kernel_rfl) (by kernel_rfl) ?_
        refine WD.val (d := (some 25)) (v := t0) (h' := h_11) (by kernel_rfl) (by kernel_rfl) (by kernel_rfl) (k := 0) (by kernel_rfl) (fun e => absurd e (by decide)) (by decide) ?_
        replace hF := obind_some hF; obtain ⟨t26, e14, hF⟩ := hF
        refine WD.val (d := (some 26)) (v := t26) (h' := h_11) (by kernel_rfl) (by kernel_rfl) (Eq.trans (by kernel_rfl) (nil_chk (h := h_11) e14)) (k := 0) (by kernel_rfl) (fun e => absurd e (by decide)) (by decide) ?_
        replace hF := obind_some hF; obtain ⟨t27, e15, hF⟩ := hF
        refine WD.val (d := (some 27)) (v := t27) (h' := h_11) (by kernel_rfl) (by kernel_rfl) (Eq.trans (by kernel_rfl) (field_ptr (P := Try.prog) (h := h_11) (s := 59) (f := 1) (by kernel_rfl) e15)) (k := 0) (by kernel_rfl) (fun e => absurd e (by decide)) (by decide) ?_
        replace hF := obind_some hF; obtain ⟨v28, e16, hF⟩ := hF
        replace hF := obind_some hF; obtain ⟨t28, c17, hF⟩ := hF
        have c17 := avInt_some c17
        subst c17
        refine WD.val (d := (some 28)) (v := .int .i64 t28) (h' := h_11) (by kernel_rfl) (by kernel_rfl) (Eq.trans (by kernel_rfl) (load_cell (P := Try.prog) (h := h_11) (t := 3) (by kernel_rfl) e16)) (k := 1) (by kernel_rfl) (fun e => absurd e (by decide)) (by decide) ?_
        refine WD.val (d := (some 29)) (v := .int .i64 t1) (h' := h_11) (by kernel_rfl) (by kernel_rfl) (by kernel_rfl) (k := 0) (by kernel_rfl) (fun e => absurd e (by decide)) (by decide) ?_
        refine WD.val (d := (some 30)) (v := t0) (h' := h_11) (by kernel_rfl) (by kernel_rfl) (by kernel_rfl) (k := 0) (by kernel_rfl) (fun e => absurd e (by decide)) (by decide) ?_
        replace hF := obind_some hF; obtain ⟨t31, e18, hF⟩ := hF
        refine WD.val (d := (some 31)) (v := t31) (h' := h_11) (by kernel_rfl) (by kernel_rfl) (Eq.trans (by kernel_rfl) (nil_chk (h := h_11) e18)) (k := 0) (by kernel_rfl) (fun e => absurd e (by decide)) (by decide) ?_
        replace hF := obind_some hF; obtain ⟨t32, e19, hF⟩ := hF
        refine WD.val (d := (some 32)) (v := t32) (h' := h_11) (by kernel_rfl) (by kernel_rfl) (Eq.trans (by kernel_rfl) (field_ptr (P := Try.prog) (h := h_11) (s := 59) (f := 0) (by kernel_rfl) e19)) (k := 0) (by kernel_rfl) (fun e => absurd e (by decide)) (by decide) ?_
        replace hF := obind_some hF; obtain ⟨v33, e20, hF⟩ := hF
        replace hF := obind_some hF; obtain ⟨t33, c21, hF⟩ := hF
        have c21 := avInt_some c21
        subst c21
        refine WD.val (d := (some 33)) (v := .int .i64 t33) (h' := h_11) (by kernel_rfl) (by kernel_rfl) (Eq.trans (by kernel_rfl) (load_cell (P := Try.prog) (h := h_11) (t := 3) (by kernel_rfl) e20)) (k := 1) (by kernel_rfl) (fun e => absurd e (by decide)) (by decide) ?_
        replace hF := lett_some hF; obtain ⟨t34, e22, hF⟩ := hF
        refine WD.val (d := (some 34)) (v := .int .i64 t34) (h' := h_11) (by kernel_rfl) (by kernel_rfl) (val_of (AV.int .i64) e22 (by kernel_rfl)) (k := 0) (by kernel_rfl) (fun e => absurd e (by decide)) (by decide) ?_
        replace hF := lett_some hF; obtain ⟨t35, e23, hF⟩ := hF
        refine WD.val (d := (some 35)) (v := .int .i64 t35) (h' := h_11) (by kernel_rfl) (by kernel_rfl) (val_of (AV.int .i64) e23 (by kernel_rfl)) (k := 0) (by kernel_rfl) (fun e => absurd e (by decide)) (by decide) ?_
        replace hF := obind_some hF; obtain ⟨t36, e24, hF⟩ := hF
        refine WD.val (d := (some 36)) (v := t36) (h' := h_11) (by kernel_rfl) (by kernel_rfl) (Eq.trans (by kernel_rfl) (nil_chk (h := h_11) e24)) (k := 0) (by kernel_rfl) (fun e => absurd e (by decide)) (by decide) ?_
        replace hF := obind_some hF; obtain ⟨t37, e25, hF⟩ := hF
        refine WD.val (d := (some 37)) (v := t37) (h' := h_11) (by kernel_rfl) (by kernel_rfl) (Eq.trans (by kernel_rfl) (field_ptr (P := Try.prog) (h := h_11) (s := 59) (f := 1) (by kernel_rfl) e25)) (k := 0) (by kernel_rfl) (fun e => absurd e (by decide)) (by decide) ?_
        replace hF := obind_some hF; obtain ⟨h_26, e27, hF⟩ := hF
        refine WD.eff (h' := h_26) (by kernel_rfl) (by kernel_rfl) (Eq.trans (by kernel_rfl) (store_row (P := Try.prog) (h := h_11) (t := 3) (v := (.int .i64 t35)) (by kernel_rfl) (by kernel_rfl) e27)) (k := 2) (by kernel_rfl) (fun _ => (by kernel_rfl)) (by decide) ?_
        refine WD.nil ?_
        refine Go.weaken (l' := []) (Fr.sub_nil _) ?_
        refine n13 ?_
        refine W.seqK (by kernel_rfl) (fun K28 n28 e28 r28 p28 => ?_)
        refine W.region (by kernel_rfl) ?_
        refine WL.val (d := (some 4)) (v := .int .i64 0) (h' := h_26) (by kernel_rfl) (by kernel_rfl) (by kernel_rfl) ?_
        refine WL.nil (by kernel_rfl) ?_
        refine Go.weaken (l' := [(4, .int .i64 0)]) (Fr.sub_cons (by kernel_rfl) (Fr.sub_nil _)) ?_
        refine n28 ?_
        refine W.ret (by kernel_rfl) ?_
        obtain ⟨hF, hF2⟩ := ret_inj hF; subst hF; subst hF2
        exact leave_of (rs := [.tmp 4]) (vs := [.int .i64 0]) (by kernel_rfl) (res_tmp (by kernel_rfl) res_nil) (by kernel_rfl)
    refine W.draw (by kernel_rfl) (hc.ok w0) (plan := [0, 1, 2, 3, 4, 5, 6, 7, 8, 9, 10, 11, 12, 13, 14, 15, 16, 17]) (by kernel_rfl) (by kernel_rfl) (by kernel_rfl) ?_
    refine WD.val (d := (some 7)) (v := .int .i64 t1) (h' := h_4) (by kernel_rfl) (by kernel_rfl) (by kernel_rfl) (k := 0) (by kernel_rfl) (fun e => absurd e (by decide)) (by decide) ?_
    replace hF := callN_some hF; obtain ⟨r8, h_29, e30, hF⟩ := hF
    replace hF := obind_some hF; obtain ⟨t8, c31, hF⟩ := hF
    have c31 := avBool_some c31
    subst c31
    refine WD.call (d := (some 8)) (by kernel_rfl) (by kernel_rfl) (by kernel_rfl) e30 (k := 2) (by kernel_rfl) (fun _ => (by kernel_rfl)) (by decide) ?_
    replace hF := lett_some hF; obtain ⟨t9, e32, hF⟩ := hF
    refine WD.val (d := (some 9)) (v := .bool t9) (h' := h_29) (by kernel_rfl) (by kernel_rfl) (val_of AV.bool e32 (by kernel_rfl)) (k := 0) (by kernel_rfl) (fun e => absurd e (by decide)) (by decide) ?_
    refine WD.val (d := (some 10)) (v := .bool t9) (h' := h_29) (by kernel_rfl) (by kernel_rfl) (by kernel_rfl) (k := 0) (by kernel_rfl) (fun e => absurd e (by decide)) (by decide) ?_
    cases t9 with
    | true =>
      replace hF := ifB_t hF
      refine WD.not (d := (some 11)) (by kernel_rfl) (by kernel_rfl) (k := 0) (by kernel_rfl) (fun e => absurd e (by decide)) (by decide) ?_
      refine WD.not (d := (some 12)) (by kernel_rfl) (by kernel_rfl) (k := 0) (by kernel_rfl) (fun e => absurd e (by decide)) (by decide) ?_
      refine WD.not (d := (some 13)) (by kernel_rfl) (by kernel_rfl) (k := 0) (by kernel_rfl) (fun e => absurd e (by decide)) (by decide) ?_
      refine WD.not (d := (some 14)) (by kernel_rfl) (by kernel_rfl) (k := 1) (by kernel_rfl) (fun e => absurd e (by decide)) (by decide) ?_
      refine WD.not (d := (some 15)) (by kernel_rfl) (by kernel_rfl) (k := 0) (by kernel_rfl) (fun e => absurd e (by decide)) (by decide) ?_
      refine WD.not (d := (some 16)) (by kernel_rfl) (by kernel_rfl) (k := 0) (by kernel_rfl) (fun e => absurd e (by decide)) (by decide) ?_
      refine WD.not (d := (some 17)) (by kernel_rfl) (by kernel_rfl) (k := 0) (by kernel_rfl) (fun e => absurd e (by decide)) (by decide) ?_
      refine WD.not (d := (some 18)) (by kernel_rfl) (by kernel_rfl) (k := 0) (by kernel_rfl) (fun e => absurd e (by decide)) (by decide) ?_
      refine WD.not (d := (some 19)) (by kernel_rfl) (by kernel_rfl) (k := 1) (by kernel_rfl) (fun e => absurd e (by decide)) (by decide) ?_
      refine WD.not (d := (some 20)) (by kernel_rfl) (by kernel_rfl) (k := 0) (by kernel_rfl) (fun e => absurd e (by decide)) (by decide) ?_
      refine WD.not (d := (some 21)) (by kernel_rfl) (by kernel_rfl) (k := 0) (by kernel_rfl) (fun e => absurd e (by decide)) (by decide) ?_
      refine WD.not (d := (some 22)) (by kernel_rfl) (by kernel_rfl) (k := 0) (by kernel_rfl) (fun e => absurd e (by decide)) (by decide) ?_
      refine WD.not (d := (some 23)) (by kernel_rfl) (by kernel_rfl) (k := 0) (by kernel_rfl) (fun e => absurd e (by decide)) (by decide) ?_
      refine WD.val (d := (some 24)) (v := .bool true) (h' := h_29) (by kernel_rfl) (by kernel_rfl) (by kernel_rfl) (k := 0) (by kernel_rfl) (fun e => absurd e (by decide)) (by decide) ?_
      refine WD.nil ?_
      exact Go.weaken (Fr.sub_cons (by kernel_rfl) (Fr.sub_cons (by kernel_rfl) (Fr.sub_cons (by kernel_rfl) (Fr.sub_nil _)))) (J10 _ _ hF)
    | false =>
      replace hF := ifB_f hF
      refine WD.val (d := (some 11)) (v := t0) (h' := h_29) (by kernel_rfl) (by kernel_rfl) (by kernel_rfl) (k := 0) (by kernel_rfl) (fun e => absurd e (by decide)) (by decide) ?_
      replace hF := obind_some hF; obtain ⟨t12, e33, hF⟩ := hF
      refine WD.val (d := (some 12)) (v := t12) (h' := h_29) (by kernel_rfl) (by kernel_rfl) (Eq.trans (by kernel_rfl) (nil_chk (h := h_29) e33)) (k := 0) (by kernel_rfl) (fun e => absurd e (by decide)) (by decide) ?_
      replace hF := obind_some hF; obtain ⟨t13, e34, hF⟩ := hF
      refine WD.val (d := (some 13)) (v := t13) (h' := h_29) (by kernel_rfl) (by kernel_rfl) (Eq.trans (by kernel_rfl) (field_ptr (P := Try.prog) (h := h_29) (s := 59) (f := 1) (by kernel_rfl) e34)) (k := 0) (by kernel_rfl) (fun e => absurd e (by decide)) (by decide) ?_
      replace hF := obind_some hF; obtain ⟨v14, e35, hF⟩ := hF
      replace hF := obind_some hF; obtain ⟨t14, c36, hF⟩ := hF
      have c36 := avInt_some c36
      subst c36
      refine WD.val (d := (some 14)) (v := .int .i64 t14) (h' := h_29) (by kernel_rfl) (by kernel_rfl) (Eq.trans (by kernel_rfl) (load_cell (P := Try.prog) (h := h_29) (t := 3) (by kernel_rfl) e35)) (k := 1) (by kernel_rfl) (fun e => absurd e (by decide)) (by decide) ?_
      refine WD.val (d := (some 15)) (v := .int .i64 t1) (h' := h_29) (by kernel_rfl) (by kernel_rfl) (by kernel_rfl) (k := 0) (by kernel_rfl) (fun e => absurd e (by decide)) (by decide) ?_
      refine WD.val (d := (some 16)) (v := t0) (h' := h_29) (by kernel_rfl) (by kernel_rfl) (by kernel_rfl) (k := 0) (by kernel_rfl) (fun e => absurd e (by decide)) (by decide) ?_
      replace hF := obind_some hF; obtain ⟨t17, e37, hF⟩ := hF
      refine WD.val (d := (some 17)) (v := t17) (h' := h_29) (by kernel_rfl) (by kernel_rfl) (Eq.trans (by kernel_rfl) (nil_chk (h := h_29) e37)) (k := 0) (by kernel_rfl) (fun e => absurd e (by decide)) (by decide) ?_
      replace hF := obind_some hF; obtain ⟨t18, e38, hF⟩ := hF
      refine WD.val (d := (some 18)) (v := t18) (h' := h_29) (by kernel_rfl) (by kernel_rfl) (Eq.trans (by kernel_rfl) (field_ptr (P := Try.prog) (h := h_29) (s := 59) (f := 0) (by kernel_rfl) e38)) (k := 0) (by kernel_rfl) (fun e => absurd e (by decide)) (by decide) ?_
      replace hF := obind_some hF; obtain ⟨v19, e39, hF⟩ := hF
      replace hF := obind_some hF; obtain ⟨t19, c40, hF⟩ := hF
      have c40 := avInt_some c40
      subst c40
      refine WD.val (d := (some 19)) (v := .int .i64 t19) (h' := h_29) (by kernel_rfl) (by kernel_rfl) (Eq.trans (by kernel_rfl) (load_cell (P := Try.prog) (h := h_29) (t := 3) (by kernel_rfl) e39)) (k := 1) (by kernel_rfl) (fun e => absurd e (by decide)) (by decide) ?_
      replace hF := lett_some hF; obtain ⟨t20, e41, hF⟩ := hF
      refine WD.val (d := (some 20)) (v := .int .i64 t20) (h' := h_29) (by kernel_rfl) (by kernel_rfl) (val_of (AV.int .i64) e41 (by kernel_rfl)) (k := 0) (by kernel_rfl) (fun e => absurd e (by decide)) (by decide) ?_
      replace hF := lett_some hF; obtain ⟨t21, e42, hF⟩ := hF
      refine WD.val (d := (some 21)) (v := .int .i64 t21) (h' := h_29) (by kernel_rfl) (by kernel_rfl) (val_of (AV.int .i64) e42 (by kernel_rfl)) (k := 0) (by kernel_rfl) (fun e => absurd e (by decide)) (by decide) ?_
      replace hF := obind_some hF; obtain ⟨t22, e43, hF⟩ := hF
      refine WD.val (d := (some 22)) (v := .int .i64 t22) (h' := h_29) (by kernel_rfl) (by kernel_rfl) (Eq.trans (by kernel_rfl) (quo_int (P := Try.prog) (h := h_29) (t := 3) (lit := true) e43)) (k := 0) (by kernel_rfl) (fun e => absurd e (by decide)) (by decide) ?_
      replace hF := lett_some hF; obtain ⟨t23, e44, hF⟩ := hF
      refine WD.val (d := (some 23)) (v := .bool t23) (h' := h_29) (by kernel_rfl) (by kernel_rfl) (val_of AV.bool e44 (by kernel_rfl)) (k := 0) (by kernel_rfl) (fun e => absurd e (by decide)) (by decide) ?_
      refine WD.val (d := (some 24)) (v := .bool t23) (h' := h_29) (by kernel_rfl) (by kernel_rfl) (by kernel_rfl) (k := 0) (by kernel_rfl) (fun e => absurd e (by decide)) (by decide) ?_
      refine WD.nil ?_
      exact Go.weaken (Fr.sub_cons (by kernel_rfl) (Fr.sub_cons (by kernel_rfl) (Fr.sub_cons (by kernel_rfl) (Fr.sub_nil _)))) (J10 _ _ hF)
noncomputable def clock_Clock_Tick_fn (call : CallF) (n : Nat) : FnT := fun args h => match args with
  | [x0, x1] => obind (avInt .i64 x1) fun t1 => clock_Clock_Tick call n x0 t1 h
  | _ => none
set_option maxRecDepth 100000 in
theorem clock_Clock_Tick_fn_eq (call : CallF) (n : Nat) (t0 : AV) (t1 : Int) (h : AHeap) : clock_Clock_Tick_fn call n [t0, .int .i64 t1] h = clock_Clock_Tick call n t0 t1 h :=
  (Eq.trans (obind_eq (fun t1 => clock_Clock_Tick call n t0 t1 h) (avInt_int .i64 t1)) rfl)
theorem clock_Clock_Tick_holds {call : CallF} (hc : SaysAll Try.prog call) (n : Nat) : Holds Try.prog 17 (clock_Clock_Tick_fn call n) := by
  intro args h r h2 e
  unfold clock_Clock_Tick_fn at e
  split at e
  · replace e := obind_some e; obtain ⟨t1, c1, e⟩ := e; have c1 := avInt_some c1; subst c1
    exact clock_Clock_Tick_ok hc e
  · cases e

noncomputable def clock_Clock_Now (_ : CallF) (_ : Nat) (t0 : AV) (h : AHeap) : R :=
  outK (opBin Try.prog h .eql 43 true (some t0) (some AV.nilp)) fun v4 h_4 =>
  obind (avBool v4) fun t4 =>
  ifB t4
  (
    some (.ret (.int .i64 0), h_4))
  (
    obind (nilC t0) fun t6 =>
    obind (fldP 1 t6) fun t7 =>
    obind (ldCell h_4 t7) fun v8 =>
    obind (avInt .i64 v8) fun t8 =>
    obind (quoI .i64 t8 1000) fun t9 =>
    some (.ret (.int .i64 t9), h_4))
set_option maxHeartbeats 4000000 in
set_option maxRecDepth 20000 in
theorem clock_Clock_Now_ok {call : CallF} (_ : SaysAll Try.prog call) {n : Nat} {t0 : AV} {h : AHeap} {rR : ARes} {hR : AHeap} (hF : clock_Clock_Now call n t0 h = some (rR, hR)) : Says Try.prog 18 [t0] h rR hR := by
  unfold clock_Clock_Now at hF
  refine says_of (fn := Try.f18) Try.func18 (c := codeOf Try.f18) (by kernel_rfl) (by kernel_rfl) (fun w0 m0 => ?_)
  refine W.weaken (l' := [(0, t0)]) (Fr.sub_cons (by kernel_rfl) (Fr.sub_nil _)) ?_
  refine W.seqK (by kernel_rfl) (fun K1 n1 e1 r1 p1 => ?_)
  refine W.region (by kernel_rfl) ?_
  refine WL.val (d := (some 2)) (v := .int .i64 0) (h' := h) (by kernel_rfl) (by kernel_rfl) (by kernel_rfl) ?_
  refine WL.nil (by kernel_rfl) ?_
  refine Go.weaken (l' := [(0, t0)]) (Fr.sub_cons (by kernel_rfl) (Fr.sub_nil _)) ?_
  refine n1 ?_
  refine W.seqK (by kernel_rfl) (fun K2 n2 e2 r2 p2 => ?_)
  refine W.seqK (by kernel_rfl) (fun K3 n3 e3 r3 p3 => ?_)
  refine W.region (by kernel_rfl) ?_
  refine WL.val (d := (some 3)) (v := t0) (h' := h) (by kernel_rfl) (by kernel_rfl) (by kernel_rfl) ?_
  replace hF := outK_some hF; obtain ⟨v4, h_4, e5, hF⟩ := hF
  replace hF := obind_some hF; obtain ⟨t4, c6, hF⟩ := hF
  have c6 := avBool_some c6
  subst c6
  refine WL.val (d := (some 4)) (v := .bool t4) (h' := h_4) (by kernel_rfl) (by kernel_rfl) (Eq.trans (by kernel_rfl) e5) ?_
  refine WL.nil (by kernel_rfl) ?_
  refine Go.weaken (l' := [(0, t0), (4, .bool t4)]) (Fr.sub_cons (by kernel_rfl) (Fr.sub_cons (by kernel_rfl) (Fr.sub_nil _))) ?_
  refine n3 ?_
  cases t4 with
  | true =>
    replace hF := ifB_t hF
    refine W.cond_true (by kernel_rfl) (by kernel_rfl) ?_
    refine W.seqK (by kernel_rfl) (fun K7 n7 e7 r7 p7 => ?_)
    refine W.region (by kernel_rfl) ?_
    refine WL.val (d := (some 2)) (v := .int .i64 0) (h' := h_4) (by kernel_rfl) (by kernel_rfl) (by kernel_rfl) ?_
    refine WL.nil (by kernel_rfl) ?_
    refine Go.weaken (l' := [(2, .int .i64 0)]) (Fr.sub_cons (by kernel_rfl) (Fr.sub_nil _)) ?_
    refine n7 ?_
    refine W.ret (by kernel_rfl) ?_
    refine r2 ?_
    obtain ⟨hF, hF2⟩ := ret_inj hF; subst hF; subst hF2
    exact leave_of (rs := [.tmp 2]) (vs := [.int .i64 0]) (by kernel_rfl) (res_tmp (by kernel_rfl) res_nil) (by kernel_rfl)
  | false =>
    replace hF := ifB_f hF
    refine W.cond_false (by kernel_rfl) (by kernel_rfl) ?_
    refine W.skip (by kernel_rfl) ?_
    refine n2 ?_
    refine W.seqK (by kernel_rfl) (fun K8 n8 e8 r8 p8 => ?_)
    refine W.region (by kernel_rfl) ?_
    refine WL.val (d := (some 5)) (v := t0) (h' := h_4) (by kernel_rfl) (by kernel_rfl) (by kernel_rfl) ?_
    replace hF := obind_some hF; obtain ⟨t6, e9, hF⟩ := hF
    refine WL.val (d := (some 6)) (v := t6) (h' := h_4) (by kernel_rfl) (by kernel_rfl) (Eq.trans (by kernel_rfl) (nil_chk (h := h_4) e9)) ?_
    replace hF := obind_some hF; obtain ⟨t7, e10, hF⟩ := hF
    refine WL.val (d := (some 7)) (v := t7) (h' := h_4) (by kernel_rfl) (by kernel_rfl) (Eq.trans (by kernel_rfl) (field_ptr (P := Try.prog) (h := h_4) (s := 59) (f := 1) (by kernel_rfl) e10)) ?_
    replace hF := obind_some hF; obtain ⟨v8, e11, hF⟩ := hF
    replace hF := obind_some hF; obtain ⟨t8, c12, hF⟩ := hF
    have c12 := avInt_some c12
    subst c12
    refine WL.val (d := (some 8)) (v := .int .i64 t8) (h' := h_4) (by kernel_rfl) (by kernel_rfl) (Eq.trans (by kernel_rfl) (load_cell (P := Try.prog) (h := h_4) (t := 3) (by kernel_rfl) e11)) ?_
    replace hF := obind_some hF; obtain ⟨t9, e13, hF⟩ := hF
    refine WL.val (d := (some 9)) (v := .int .i64 t9) (h' := h_4) (by kernel_rfl) (by kernel_rfl) (Eq.trans (by kernel_rfl) (quo_int (P := Try.prog) (h := h_4) (t := 3) (lit := true) e13)) ?_
    refine WL.val (d := (some 2)) (v := .int .i64 t9) (h' := h_4) (by kernel_rfl) (by kernel_rfl) (by kernel_rfl) ?_
    refine WL.nil (by kernel_rfl) ?_
    refine Go.weaken (l' := [(2, .int .i64 t9)]) (Fr.sub_cons (by kernel_rfl) (Fr.sub_nil _)) ?_
    refine n8 ?_
    refine W.ret (by kernel_rfl) ?_
    obtain ⟨hF, hF2⟩ := ret_inj hF; subst hF; subst hF2
    exact leave_of (rs := [.tmp 2]) (vs := [.int .i64 t9]) (by kernel_rfl) (res_tmp (by kernel_rfl) res_nil) (by kernel_rfl)
noncomputable def clock_Clock_Now_fn (call : CallF) (n : Nat) : FnT := fun args h => match args with
  | [x0] => clock_Clock_Now call n x0 h
  | _ => none
set_option maxRecDepth 100000 in
theorem clock_Clock_Now_fn_eq (call : CallF) (n : Nat) (t0 : AV) (h : AHeap) : clock_Clock_Now_fn call n [t0] h = clock_Clock_Now call n t0 h :=
  rfl
theorem clock_Clock_Now_holds {call : CallF} (hc : SaysAll Try.prog call) (n : Nat) : Holds Try.prog 18 (clock_Clock_Now_fn call n) := by
  intro args h r h2 e
  unfold clock_Clock_Now_fn at e
  split at e
  · exact clock_Clock_Now_ok hc e
  · cases e

noncomputable def clock_Clock_Rate (call : CallF) (_ : Nat) (t0 : AV) (t1 : Int) (h : AHeap) : R :=
  outK (opBin Try.prog h .eql 43 true (some t0) (some AV.nilp)) fun v6 h_4 =>
  obind (avBool v6) fun t6 =>
  ifB t6
  (
    some (.ret (.int .i64 1), h_4))
  (
    callN (call 22 [.int .i64 t1] h_4) fun r8 h_10 =>
    obind (avBool r8) fun t8 =>
    lett (!t8) fun (t9 : Bool) =>
    ifB t9
    (
      some (.ret (.int .i64 5), h_10))
    (
      obind (nilC t0) fun t12 =>
      obind (fldP 0 t12) fun t13 =>
      obind (stRow h_10 1 [.int .i64 t1] t13) fun h_18 =>
      some (.ret (.int .i64 0), h_18)))
set_option maxHeartbeats 4000000 in
set_option maxRecDepth 20000 in
theorem clock_Clock_Rate_ok {call : CallF} (hc : SaysAll Try.prog call) {n : Nat} {t0 : AV} {t1 : Int} {h : AHeap} {rR : ARes} {hR : AHeap} (hF : clock_Clock_Rate call n t0 t1 h = some (rR, hR)) : Says Try.prog 19 [t0, .int .i64 t1] h rR hR := by
  unfold clock_Clock_Rate at hF
  refine says_of (fn := Try.f19) Try.func19 (c := codeOf Try.f19) (by kernel_rfl) (by kernel_rfl) (fun w0 m0 => ?_)
  refine W.weaken (l' := [(0, t0), (1, .int .i64 t1)]) (Fr.sub_cons (by kernel_rfl) (Fr.sub_cons (by kernel_rfl) (Fr.sub_nil _))) ?_
  refine W.seqK (by kernel_rfl) (fun K1 n1 e1 r1 p1 => ?_)
  refine W.region (by kernel_rfl) ?_
  refine WL.val (d := (some 4)) (v := .int .i64 0) (h' := h) (by kernel_rfl) (by kernel_rfl) (by kernel_rfl) ?_
  refine WL.nil (by kernel_rfl) ?_
  refine Go.weaken (l' := [(0, t0), (1, .int .i64 t1)]) (Fr.sub_cons (by kernel_rfl) (Fr.sub_cons (by kernel_rfl) (Fr.sub_nil _))) ?_
  refine n1 ?_
  refine W.seqK (by kernel_rfl) (fun K2 n2 e2 r2 p2 => ?_)
  refine W.seqK (by kernel_rfl) (fun K3 n3 e3 r3 p3 => ?_)
  refine W.region (by kernel_rfl) ?_
  refine WL.val (d := (some 5)) (v := t0) (h' := h) (by kernel_rfl) (by kernel_rfl) (by kernel_rfl) ?_
  replace hF := outK_some hF; obtain ⟨v6, h_4, e5, hF⟩ := hF
  replace hF := obind_some hF; obtain ⟨t6, c6, hF⟩ := hF
  have c6 := avBool_some c6
  subst c6
  refine WL.val (d := (some 6)) (v := .bool t6) (h' := h_4) (by kernel_rfl) (by kernel_rfl) (Eq.trans (by kernel_rfl) e5) ?_
  refine WL.nil (by kernel_rfl) ?_
  refine Go.weaken (l' := [(0, t0), (1, .int .i64 t1), (6, .bool t6)]) (Fr.sub_cons (by kernel_rfl) (Fr.sub_cons (by kernel_rfl) (Fr.sub_cons (by kernel_rfl) (Fr.sub_nil _)))) ?_
  refine n3 ?_
  cases t6 with
  | true =>
    replace hF := ifB_t hF
    refine W.cond_true (by kernel_rfl) (by kernel_rfl) ?_
    refine W.seqK (by kernel_rfl) (fun K7 n7 e7 r7 p7 => ?_)
    refine W.region (by kernel_rfl) ?_
    refine WL.val (d := (some 4)) (v := .int .i64 1) (h' := h_4) (by kernel_rfl) (by kernel_rfl) (by kernel_rfl) ?_
    refine WL.nil (by kernel_rfl) ?_
    refine Go.weaken (l' := [(4, .int .i64 1)]) (Fr.sub_cons (by kernel_rfl) (Fr.sub_nil _)) ?_
    refine n7 ?_
    refine W.ret (by kernel_rfl) ?_
    refine r2 ?_
    obtain ⟨hF, hF2⟩ := ret_inj hF; subst hF; subst hF2
    exact leave_of (rs := [.tmp 4]) (vs := [.int .i64 1]) (by kernel_rfl) (res_tmp (by kernel_rfl) res_nil) (by kernel_rfl)
  | false =>
    replace hF := ifB_f hF
    refine W.cond_false (by kernel_rfl) (by kernel_rfl) ?_
    refine W.skip (by kernel_rfl) ?_
    refine n2 ?_
    refine W.seqK (by kernel_rfl) (fun K8 n8 e8 r8 p8 => ?_)
    refine W.seqK (by kernel_rfl) (fun K9 n9 e9 r9 p9 => ?_)
    refine W.region (by kernel_rfl) ?_
    refine WL.val (d := (some 7)) (v := .int .i64 t1) (h' := h_4) (by kernel_rfl) (by kernel_rfl) (by kernel_rfl) ?_
    replace hF := callN_some hF; obtain ⟨r8, h_10, e11, hF⟩ := hF
    replace hF := obind_some hF; obtain ⟨t8, c12, hF⟩ := hF
    have c12 := avBool_some c12
    subst c12
    refine WL.call (hc.ok w0) (d := (some 8)) (by kernel_rfl) (by kernel_rfl) (by kernel_rfl) e11 ?_
    replace hF := lett_some hF; obtain ⟨t9, e13, hF⟩ := hF
    refine WL.val (d := (some 9)) (v := .bool t9) (h' := h_10) (by kernel_rfl) (by kernel_rfl) (val_of AV.bool e13 (by kernel_rfl)) ?_
    refine WL.nil (by kernel_rfl) ?_
    refine Go.weaken (l' := [(0, t0), (1, .int .i64 t1), (9, .bool t9)]) (Fr.sub_cons (by kernel_rfl) (Fr.sub_cons (by kernel_rfl) (Fr.sub_cons (by kernel_rfl) (Fr.sub_nil _)))) ?_
    refine n9 ?_
    cases t9 with
    | true =>
      replace hF := ifB_t hF
      refine W.cond_true (by kernel_rfl) (by kernel_rfl) ?_
      refine W.seqK (by kernel_rfl) (fun K14 n14 e14 r14 p14 => ?_)
      refine W.region (by kernel_rfl) ?_
      refine WL.val (d := (some 4)) (v := .int .i64 5) (h' := h_10) (by kernel_rfl) (by kernel_rfl) (by kernel_rfl) ?_
      refine WL.nil (by kernel_rfl) ?_
      refine Go.weaken (l' := [(4, .int .i64 5)]) (Fr.sub_cons (by kernel_rfl) (Fr.sub_nil _)) ?_
      refine n14 ?_
      refine W.ret (by kernel_rfl) ?_
      refine r8 ?_
      obtain ⟨hF, hF2⟩ := ret_inj hF; subst hF; subst hF2
      exact leave_of (rs := [.tmp 4]) (vs := [.int .i64 5]) (by kernel_rfl) (res_tmp (by kernel_rfl) res_nil) (by kernel_rfl)
    | false =>
      replace hF := ifB_f hF
      refine W.cond_false (by kernel_rfl) (by kernel_rfl) ?_
      refine W.skip (by kernel_rfl) ?_
      refine n8 ?_
      refine W.seqK (by kernel_rfl) (fun K15 n15 e15 r15 p15 => ?_)
      refine W.region (by kernel_rfl) ?_
      refine WL.val (d := (some 10)) (v := t0) (h' := h_10) (by kernel_rfl) (by kernel_rfl) (by kernel_rfl) ?_
      refine WL.val (d := (some 11)) (v := .int .i64 t1) (h' := h_10) (by kernel_rfl) (by kernel_rfl) (by kernel_rfl) ?_
      replace hF := obind_some hF; obtain ⟨t12, e16, hF⟩ := hF
      refine WL.val (d := (some 12)) (v := t12) (h' := h_10) (by kernel_rfl) (by kernel_rfl) (Eq.trans (by kernel_rfl) (nil_chk (h := h_10) e16)) ?_
      replace hF := obind_some hF; obtain ⟨t13, e17, hF⟩ := hF
      refine WL.val (d := (some 13)) (v := t13) (h' := h_10) (by kernel_rfl) (by kernel_rfl) (Eq.trans (by kernel_rfl) (field_ptr (P := Try.prog) (h := h_10) (s := 59) (f := 0) (by kernel_rfl) e17)) ?_
      replace hF := obind_some hF; obtain ⟨h_18, e19, hF⟩ := hF
      refine WL.eff (h' := h_18) (by kernel_rfl) (by kernel_rfl) (Eq.trans (by kernel_rfl) (store_row (P := Try.prog) (h := h_10) (t := 3) (v := (.int .i64 t1)) (by kernel_rfl) (by kernel_rfl) e19)) ?_
      refine WL.nil (by kernel_rfl) ?_
      refine Go.weaken (l' := []) (Fr.sub_nil _) ?_
      refine n15 ?_
      refine W.seqK (by kernel_rfl) (fun K20 n20 e20 r20 p20 => ?_)
      refine W.region (by kernel_rfl) ?_
      refine WL.val (d := (some 4)) (v := .int .i64 0) (h' := h_18) (by kernel_rfl) (by kernel_rfl) (by kernel_rfl) ?_
      refine WL.nil (by kernel_rfl) ?_
      refine Go.weaken (l' := [(4, .int .i64 0)]) (Fr.sub_cons (by kernel_rfl) (Fr.sub_nil _)) ?_
      refine n20 ?_
      refine W.ret (by kernel_rfl) ?_
      obtain ⟨hF, hF2⟩ := ret_inj hF; subst hF; subst hF2
      exact leave_of (rs := [.tmp 4]) (vs := [.int .i64 0]) (by kernel_rfl) (res_tmp (by kernel_rfl) res_nil) (by kernel_rfl)
noncomputable def clock_Clock_Rate_fn (call : CallF) (n : Nat) : FnT := fun args h => match args with
  | [x0, x1] => obind (avInt .i64 x1) fun t1 => clock_Clock_Rate call n x0 t1 h
  | _ => none
set_option maxRecDepth 100000 in
theorem clock_Clock_Rate_fn_eq (call : CallF) (n : Nat) (t0 : AV) (t1 : Int) (h : AHeap) : clock_Clock_Rate_fn call n [t0, .int .i64 t1] h = clock_Clock_Rate call n t0 t1 h :=
  (Eq.trans (obind_eq (fun t1 => clock_Clock_Rate call n t0 t1 h) (avInt_int .i64 t1)) rfl)
theorem clock_Clock_Rate_holds {call : CallF} (hc : SaysAll Try.prog call) (n : Nat) : Holds Try.prog 19 (clock_Clock_Rate_fn call n) := by
  intro args h r h2 e
  unfold clock_Clock_Rate_fn at e
  split at e
  · replace e := obind_some e; obtain ⟨t1, c1, e⟩ := e; have c1 := avInt_some c1; subst c1
    exact clock_Clock_Rate_ok hc e
  · cases e

noncomputable def clock_isRate (_ : CallF) (_ : Nat) (t0 : Int) (h : AHeap) : R :=
  lett (decide (t0 ≥ 500)) fun (t4 : Bool) =>
  lett (fun (t8 : Bool) (h_4 : AHeap) =>
    some (.ret (.bool t8), h_4)) fun j8 =>
  ifB t4
  (
    lett (decide (t0 ≤ 2000)) fun (t7 : Bool) =>
    j8 t7 h)
  (
    j8 false h)
set_option maxHeartbeats 4000000 in
set_option maxRecDepth 20000 in
theorem clock_isRate_ok {call : CallF} (_ : SaysAll Try.prog call) {n : Nat} {t0 : Int} {h : AHeap} {rR : ARes} {hR : AHeap} (hF : clock_isRate call n t0 h = some (rR, hR)) : Says Try.prog 22 [.int .i64 t0] h rR hR := by
  unfold clock_isRate at hF
  refine says_of (fn := Try.f22) Try.func22 (c := codeOf Try.f22) (by kernel_rfl) (by kernel_rfl) (fun w0 m0 => ?_)
  refine W.weaken (l' := [(0, .int .i64 t0)]) (Fr.sub_cons (by kernel_rfl) (Fr.sub_nil _)) ?_
  refine W.seqK (by kernel_rfl) (fun K1 n1 e1 r1 p1 => ?_)
  refine W.region (by kernel_rfl) ?_
  refine WL.val (d := (some 2)) (v := .bool false) (h' := h) (by kernel_rfl) (by kernel_rfl) (by kernel_rfl) ?_
  refine WL.nil (by kernel_rfl) ?_
  refine Go.weaken (l' := [(0, .int .i64 t0)]) (Fr.sub_cons (by kernel_rfl) (Fr.sub_nil _)) ?_
  refine n1 ?_
  refine W.seqK (by kernel_rfl) (fun K2 n2 e2 r2 p2 => ?_)
  refine W.region (by kernel_rfl) ?_
  refine WL.val (d := (some 3)) (v := .int .i64 t0) (h' := h) (by kernel_rfl) (by kernel_rfl) (by kernel_rfl) ?_
  replace hF := lett_some hF; obtain ⟨t4, e3, hF⟩ := hF
  refine WL.val (d := (some 4)) (v := .bool t4) (h' := h) (by kernel_rfl) (by kernel_rfl) (val_of AV.bool e3 (by kernel_rfl)) ?_
  refine WL.val (d := (some 5)) (v := .bool t4) (h' := h) (by kernel_rfl) (by kernel_rfl) (by kernel_rfl) ?_
  replace hF := lett_some hF; obtain ⟨j8, e5, hF⟩ := hF
  have J6 : ∀ (t8 : Bool) (h_4 : AHeap), j8 t8 h_4 = some (rR, hR) → WL Try.prog w0 m0 (Func.ntmps Try.f22) (Code.ops (Code.p1 (Code.p2 (codeOf Try.f22)))) 6 K2 [(8, .bool t8)] [] h_4 := by
    intro t8 h_4 hF
    rw [e5] at hF
    refine WL.val (d := (some 2)) (v := .bool t8) (h' := h_4) (by kernel_rfl) (by kernel_rfl) (by kernel_rfl) ?_
    refine WL.nil (by kernel_rfl) ?_
    refine Go.weaken (l' := [(2, .bool t8)]) (Fr.sub_cons (by kernel_rfl) (Fr.sub_nil _)) ?_
    refine n2 ?_
    refine W.ret (by kernel_rfl) ?_
    obtain ⟨hF, hF2⟩ := ret_inj hF; subst hF; subst hF2
    exact leave_of (rs := [.tmp 2]) (vs := [.bool t8]) (by kernel_rfl) (res_tmp (by kernel_rfl) res_nil) (by kernel_rfl)
  cases t4 with
  | true =>
    replace hF := ifB_t hF
    refine WL.val (d := (some 6)) (v := .int .i64 t0) (h' := h) (by kernel_rfl) (by kernel_rfl) (by kernel_rfl) ?_
    replace hF := lett_some hF; obtain ⟨t7, e7, hF⟩ := hF
    refine WL.val (d := (some 7)) (v := .bool t7) (h' := h) (by kernel_rfl) (by kernel_rfl) (val_of AV.bool e7 (by kernel_rfl)) ?_
    refine WL.val (d := (some 8)) (v := .bool t7) (h' := h) (by kernel_rfl) (by kernel_rfl) (by kernel_rfl) ?_
    exact WL.weaken (Fr.sub_cons (by kernel_rfl) (Fr.sub_nil _)) (J6 _ _ hF)
  | false =>
    replace hF := ifB_f hF
    refine WL.not (d := (some 6)) (by kernel_rfl) (by kernel_rfl) ?_
    refine WL.not (d := (some 7)) (by kernel_rfl) (by kernel_rfl) ?_
    refine WL.val (d := (some 8)) (v := .bool false) (h' := h) (by kernel_rfl) (by kernel_rfl) (by kernel_rfl) ?_
    exact WL.weaken (Fr.sub_cons (by kernel_rfl) (Fr.sub_nil _)) (J6 _ _ hF)
noncomputable def clock_isRate_fn (call : CallF) (n : Nat) : FnT := fun args h => match args with
  | [x0] => obind (avInt .i64 x0) fun t0 => clock_isRate call n t0 h
  | _ => none
set_option maxRecDepth 100000 in
theorem clock_isRate_fn_eq (call : CallF) (n : Nat) (t0 : Int) (h : AHeap) : clock_isRate_fn call n [.int .i64 t0] h = clock_isRate call n t0 h :=
  (Eq.trans (obind_eq (fun t0 => clock_isRate call n t0 h) (avInt_int .i64 t0)) rfl)
theorem clock_isRate_holds {call : CallF} (hc : SaysAll Try.prog call) (n : Nat) : Holds Try.prog 22 (clock_isRate_fn call n) := by
  intro args h r h2 e
  unfold clock_isRate_fn at e
  split at e
  · replace e := obind_some e; obtain ⟨t0, c0, e⟩ := e; have c0 := avInt_some c0; subst c0
    exact clock_isRate_ok hc e
  · cases e

noncomputable def clock_isTicks (_ : CallF) (_ : Nat) (t0 : Int) (h : AHeap) : R :=
  lett (decide (t0 ≥ 0)) fun (t4 : Bool) =>
  lett (fun (t8 : Bool) (h_4 : AHeap) =>
    some (.ret (.bool t8), h_4)) fun j8 =>
  ifB t4
  (
    lett (decide (t0 ≤ 1099511627776)) fun (t7 : Bool) =>
    j8 t7 h)
  (
    j8 false h)
set_option maxHeartbeats 4000000 in
set_option maxRecDepth 20000 in
theorem clock_isTicks_ok {call : CallF} (_ : SaysAll Try.prog call) {n : Nat} {t0 : Int} {h : AHeap} {rR : ARes} {hR : AHeap} (hF : clock_isTicks call n t0 h = some (rR, hR)) : Says Try.prog 23 [.int .i64 t0] h rR hR := by
  unfold clock_isTicks at hF
  refine says_of (fn := Try.f23) Try.func23 (c := codeOf Try.f23) (by kernel_rfl) (by kernel_rfl) (fun w0 m0 => ?_)
  refine W.weaken (l' := [(0, .int .i64 t0)]) (Fr.sub_cons (by kernel_rfl) (Fr.sub_nil _)) ?_
  refine W.seqK (by kernel_rfl) (fun K1 n1 e1 r1 p1 => ?_)
  refine W.region (by kernel_rfl) ?_
  refine WL.val (d := (some 2)) (v := .bool false) (h' := h) (by kernel_rfl) (by kernel_rfl) (by kernel_rfl) ?_
  refine WL.nil (by kernel_rfl) ?_
  refine Go.weaken (l' := [(0, .int .i64 t0)]) (Fr.sub_cons (by kernel_rfl) (Fr.sub_nil _)) ?_
  refine n1 ?_
  refine W.seqK (by kernel_rfl) (fun K2 n2 e2 r2 p2 => ?_)
  refine W.region (by kernel_rfl) ?_
  refine WL.val (d := (some 3)) (v := .int .i64 t0) (h' := h) (by kernel_rfl) (by kernel_rfl) (by kernel_rfl) ?_
  replace hF := lett_some hF; obtain ⟨t4, e3, hF⟩ := hF
  refine WL.val (d := (some 4)) (v := .bool t4) (h' := h) (by kernel_rfl) (by kernel_rfl) (val_of AV.bool e3 (by kernel_rfl)) ?_
  refine WL.val (d := (some 5)) (v := .bool t4) (h' := h) (by kernel_rfl) (by kernel_rfl) (by kernel_rfl) ?_
  replace hF := lett_some hF; obtain ⟨j8, e5, hF⟩ := hF
  have J6 : ∀ (t8 : Bool) (h_4 : AHeap), j8 t8 h_4 = some (rR, hR) → WL Try.prog w0 m0 (Func.ntmps Try.f23) (Code.ops (Code.p1 (Code.p2 (codeOf Try.f23)))) 6 K2 [(8, .bool t8)] [] h_4 := by
    intro t8 h_4 hF
    rw [e5] at hF
    refine WL.val (d := (some 2)) (v := .bool t8) (h' := h_4) (by kernel_rfl) (by kernel_rfl) (by kernel_rfl) ?_
    refine WL.nil (by kernel_rfl) ?_
    refine Go.weaken (l' := [(2, .bool t8)]) (Fr.sub_cons (by kernel_rfl) (Fr.sub_nil _)) ?_
    refine n2 ?_
    refine W.ret (by kernel_rfl) ?_
    obtain ⟨hF, hF2⟩ := ret_inj hF; subst hF; subst hF2
    exact leave_of (rs := [.tmp 2]) (vs := [.bool t8]) (by kernel_rfl) (res_tmp (by kernel_rfl) res_nil) (by kernel_rfl)
  cases t4 with
  | true =>
    replace hF := ifB_t hF
    refine WL.val (d := (some 6)) (v := .int .i64 t0) (h' := h) (by kernel_rfl) (by kernel_rfl) (by kernel_rfl) ?_
    replace hF := lett_some hF; obtain ⟨t7, e7, hF⟩ := hF
    refine WL.val (d := (some 7)) (v := .bool t7) (h' := h) (by kernel_rfl) (by kernel_rfl) (val_of AV.bool e7 (by kernel_rfl)) ?_
    refine WL.val (d := (some 8)) (v := .bool t7) (h' := h) (by kernel_rfl) (by kernel_rfl) (by kernel_rfl) ?_
    exact WL.weaken (Fr.sub_cons (by kernel_rfl) (Fr.sub_nil _)) (J6 _ _ hF)
  | false =>
    replace hF := ifB_f hF
    refine WL.not (d := (some 6)) (by kernel_rfl) (by kernel_rfl) ?_
    refine WL.not (d := (some 7)) (by kernel_rfl) (by kernel_rfl) ?_
    refine WL.val (d := (some 8)) (v := .bool false) (h' := h) (by kernel_rfl) (by kernel_rfl) (by kernel_rfl) ?_
    exact WL.weaken (Fr.sub_cons (by kernel_rfl) (Fr.sub_nil _)) (J6 _ _ hF)
noncomputable def clock_isTicks_fn (call : CallF) (n : Nat) : FnT := fun args h => match args with
  | [x0] => obind (avInt .i64 x0) fun t0 => clock_isTicks call n t0 h
  | _ => none
set_option maxRecDepth 100000 in
theorem clock_isTicks_fn_eq (call : CallF) (n : Nat) (t0 : Int) (h : AHeap) : clock_isTicks_fn call n [.int .i64 t0] h = clock_isTicks call n t0 h :=
  (Eq.trans (obind_eq (fun t0 => clock_isTicks call n t0 h) (avInt_int .i64 t0)) rfl)
theorem clock_isTicks_holds {call : CallF} (hc : SaysAll Try.prog call) (n : Nat) : Holds Try.prog 23 (clock_isTicks_fn call n) := by
  intro args h r h2 e
  unfold clock_isTicks_fn at e
  split at e
  · replace e := obind_some e; obtain ⟨t0, c0, e⟩ := e; have c0 := avInt_some c0; subst c0
    exact clock_isTicks_ok hc e
  · cases e

end Go.Proofs.Ytjhnmfhpjlolhaa
