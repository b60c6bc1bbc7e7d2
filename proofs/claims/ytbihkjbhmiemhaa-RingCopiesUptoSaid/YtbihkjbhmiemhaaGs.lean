/- Plain functions in place of the program's, and that their calls come to what they say. -/
import Derived.Test.YtbihkjbhmiemhaaGr
namespace Go.Proofs.Ytbihkjbhmiemhaa
open Go.RowKit Abs

noncomputable def law21_RingTells (call : CallF) (_ : Nat) (t0 : Int) (t1 : AV) (t2 : Int) (t3 : Int) (h : AHeap) : R :=
  callN (call 8 [] h) fun r20 h_4 =>
  obind (avBool r20) fun t20 =>
  lett (!t20) fun (t21 : Bool) =>
  ifB t21
  (
    some (.ret (.bool false), h_4))
  (
    callN (call 9 [t1] h_4) fun r24 h_10 =>
    obind (extT 0 r24) fun v25 =>
    obind (avStr v25) fun t25 =>
    obind (extT 1 r24) fun v26 =>
    obind (avBool v26) fun t26 =>
    lett (!t26) fun (t28 : Bool) =>
    ifB t28
    (
      some (.ret (.bool true), h_10))
    (
      callN (call 10 [.int .i64 t0] h_10) fun r31 h_21 =>
      obind (extT 0 r31) fun _ =>
      obind (extT 1 r31) fun v33 =>
      obind (avInt .i64 v33) fun t33 =>
      callN (call 11 [.int .i64 t0, t1] h_21) fun r36 h_27 =>
      callN (call 12 [.int .i64 t0] h_27) fun r38 h_31 =>
      obind (avBool r38) fun t38 =>
      lett (!t38) fun (t39 : Bool) =>
      ifB t39
      (
        lett ((t33 : Int) == 5) fun (t41 : Bool) =>
        lett (fun (t45 : Bool) (h_37 : AHeap) =>
          some (.ret (.bool t45), h_37)) fun j45 =>
        ifB t41
        (
          outK (opBin Try.prog h_31 .eql 26 true (some r36) (some AV.nilp)) fun v44 h_40 =>
          obind (avBool v44) fun t44 =>
          j45 t44 h_40)
        (
          j45 false h_31))
      (
        lett ((t33 : Int) != 0) fun (t47 : Bool) =>
        lett (fun (t51 : Bool) (h_46 : AHeap) =>
          ifB t51
          (
            some (.ret (.bool false), h_46))
          (
            callN (call 13 [r36, .int .i64 t2, .int .i64 t3] h_46) fun r56 h_51 =>
            obind (extT 0 r56) fun v57 =>
            obind (avStr v57) fun t57 =>
            obind (extT 1 r56) fun v58 =>
            obind (avInt .i64 v58) fun t58 =>
            obind (extT 2 r56) fun v59 =>
            obind (avInt .i64 v59) fun t59 =>
            callN (call 14 [strA t25, .int .i64 t0, .int .i64 t2, .int .i64 t3] h_51) fun r65 h_60 =>
            obind (extT 0 r65) fun v66 =>
            obind (avStr v66) fun t66 =>
            obind (extT 1 r65) fun v67 =>
            obind (avInt .i64 v67) fun t67 =>
            obind (extT 2 r65) fun v68 =>
            obind (avInt .i64 v68) fun t68 =>
            lett (eqS t57 t66) fun (t71 : Bool) =>
            lett (fun (t76 : Bool) (h_70 : AHeap) =>
              lett (fun (t81 : Bool) (h_73 : AHeap) =>
                lett (fun (t88 : Bool) (h_76 : AHeap) =>
                  lett (fun (t96 : Bool) (h_79 : AHeap) =>
                    some (.ret (.bool t96), h_79)) fun j96 =>
                  ifB t88
                  (
                    callN (call 16 [r36] h_76) fun r91 h_82 =>
                    obind (avInt .i64 r91) fun t91 =>
                    callN (call 17 [strA t25, .int .i64 t0] h_82) fun r94 h_85 =>
                    obind (avInt .i64 r94) fun t94 =>
                    lett ((t91 : Int) == t94) fun (t95 : Bool) =>
                    j96 t95 h_85)
                  (
                    j96 false h_76)) fun j88 =>
                ifB t81
                (
                  callN (call 15 [r36] h_73) fun r84 h_89 =>
                  obind (avInt .i64 r84) fun t84 =>
                  lett ((t84 : Int) == (lenS t25)) fun (t87 : Bool) =>
                  j88 t87 h_89)
                (
                  j88 false h_73)) fun j81 =>
              ifB t76
              (
                lett ((t59 : Int) == t68) fun (t80 : Bool) =>
                j81 t80 h_70)
              (
                j81 false h_70)) fun j76 =>
            ifB t71
            (
              lett ((t58 : Int) == t67) fun (t75 : Bool) =>
              j76 t75 h_60)
            (
              j76 false h_60))) fun j51 =>
        ifB t47
        (
          j51 true h_31)
        (
          outK (opBin Try.prog h_31 .eql 26 true (some r36) (some AV.nilp)) fun v50 h_95 =>
          obind (avBool v50) fun t50 =>
          j51 t50 h_95))))
set_option maxHeartbeats 4000000 in
set_option maxRecDepth 20000 in
theorem law21_RingTells_ok {call : CallF} (hc : SaysAll Try.prog call) {n : Nat} {t0 : Int} {t1 : AV} {t2 : Int} {t3 : Int} {h : AHeap} {rR : ARes} {hR : AHeap} (hF : law21_RingTells call n t0 t1 t2 t3 h = some (rR, hR)) : Says Try.prog 3 [.int .i64 t0, t1, .int .i64 t2, .int .i64 t3] h rR hR := by
  unfold law21_RingTells at hF
  refine says_of (fn := Try.f3) Try.func3 (c := codeOf Try.f3) (by kernel_rfl) (by kernel_rfl) (fun w0 m0 => ?_)
  refine W.weaken (l' := [(0, .int .i64 t0), (1, t1), (2, .int .i64 t2), (3, .int .i64 t3)]) (Fr.sub_cons (by kernel_rfl) (Fr.sub_cons (by kernel_rfl) (Fr.sub_cons (by kernel_rfl) (Fr.sub_cons (by kernel_rfl) (Fr.sub_nil _))))) ?_
  refine W.seqK (by kernel_rfl) (fun K1 n1 e1 r1 p1 => ?_)
  refine W.region (by kernel_rfl) ?_
  refine WL.val (d := (some 8)) (v := .bool false) (h' := h) (by kernel_rfl) (by kernel_rfl) (by kernel_rfl) ?_
  refine WL.nil (by kernel_rfl) ?_
  refine Go.weaken (l' := [(0, .int .i64 t0), (1, t1), (2, .int .i64 t2), (3, .int .i64 t3)]) (Fr.sub_cons (by kernel_rfl) (Fr.sub_cons (by kernel_rfl) (Fr.sub_cons (by kernel_rfl) (Fr.sub_cons (by kernel_rfl) (Fr.sub_nil _))))) ?_
  refine n1 ?_
  refine W.seqK (by kernel_rfl) (fun K2 n2 e2 r2 p2 => ?_)
  refine W.seqK (by kernel_rfl) (fun K3 n3 e3 r3 p3 => ?_)
  refine W.region (by kernel_rfl) ?_
  replace hF := callN_some hF; obtain ⟨r20, h_4, e5, hF⟩ := hF
  replace hF := obind_some hF; obtain ⟨t20, c6, hF⟩ := hF
  have c6 := avBool_some c6
  subst c6
  refine WL.call (hc.ok w0) (d := (some 20)) (by kernel_rfl) (by kernel_rfl) (by kernel_rfl) e5 ?_
  replace hF := lett_some hF; obtain ⟨t21, e7, hF⟩ := hF
  refine WL.val (d := (some 21)) (v := .bool t21) (h' := h_4) (by kernel_rfl) (by kernel_rfl) (val_of AV.bool e7 (by kernel_rfl)) ?_
  refine WL.nil (by kernel_rfl) ?_
  refine Go.weaken (l' := [(0, .int .i64 t0), (1, t1), (2, .int .i64 t2), (3, .int .i64 t3), (21, .bool t21)]) (Fr.sub_cons (by kernel_rfl) (Fr.sub_cons (by kernel_rfl) (Fr.sub_cons (by kernel_rfl) (Fr.sub_cons (by kernel_rfl) (Fr.sub_cons (by kernel_rfl) (Fr.sub_nil _)))))) ?_
  refine n3 ?_
  cases t21 with
  | true =>
    replace hF := ifB_t hF
    refine W.cond_true (by kernel_rfl) (by kernel_rfl) ?_
    refine W.seqK (by kernel_rfl) (fun K8 n8 e8 r8 p8 => ?_)
    refine W.region (by kernel_rfl) ?_
    refine WL.val (d := (some 8)) (v := .bool false) (h' := h_4) (by kernel_rfl) (by kernel_rfl) (by kernel_rfl) ?_
    refine WL.nil (by kernel_rfl) ?_
    refine Go.weaken (l' := [(8, .bool false)]) (Fr.sub_cons (by kernel_rfl) (Fr.sub_nil _)) ?_
    refine n8 ?_
    refine W.ret (by kernel_rfl) ?_
    refine r2 ?_
    obtain ⟨hF, hF2⟩ := ret_inj hF; subst hF; subst hF2
    exact leave_of (rs := [.tmp 8]) (vs := [.bool false]) (by kernel_rfl) (res_tmp (by kernel_rfl) res_nil) (by kernel_rfl)
  | false =>
    replace hF := ifB_f hF
    refine W.cond_false (by kernel_rfl) (by kernel_rfl) ?_
    refine W.skip (by kernel_rfl) ?_
    refine n2 ?_
    refine W.seqK (by kernel_rfl) (fun K9 n9 e9 r9 p9 => ?_)
    refine W.region (by kernel_rfl) ?_
    refine WL.val (d := (some 23)) (v := t1) (h' := h_4) (by kernel_rfl) (by kernel_rfl) (by kernel_rfl) ?_
    replace hF := callN_some hF; obtain ⟨r24, h_10, e11, hF⟩ := hF
    refine WL.call (hc.ok w0) (d := (some 24)) (by kernel_rfl) (by kernel_rfl) (by kernel_rfl) e11 ?_
    refine WL.val (d := (some 22)) (v := r24) (h' := h_10) (by kernel_rfl) (by kernel_rfl) (by kernel_rfl) ?_
    replace hF := obind_some hF; obtain ⟨v25, e12, hF⟩ := hF
    replace hF := obind_some hF; obtain ⟨t25, c13, hF⟩ := hF
    have c13 := avStr_some c13
    subst c13
    refine WL.val (d := (some 25)) (v := strA t25) (h' := h_10) (by kernel_rfl) (by kernel_rfl) (Eq.trans (by kernel_rfl) (extract_tup (h := h_10) e12)) ?_
    replace hF := obind_some hF; obtain ⟨v26, e14, hF⟩ := hF
    replace hF := obind_some hF; obtain ⟨t26, c15, hF⟩ := hF
    have c15 := avBool_some c15
    subst c15
    refine WL.val (d := (some 26)) (v := .bool t26) (h' := h_10) (by kernel_rfl) (by kernel_rfl) (Eq.trans (by kernel_rfl) (extract_tup (h := h_10) e14)) ?_
    refine WL.val (d := (some 9)) (v := strA t25) (h' := h_10) (by kernel_rfl) (by kernel_rfl) (by kernel_rfl) ?_
    refine WL.val (d := (some 10)) (v := .bool t26) (h' := h_10) (by kernel_rfl) (by kernel_rfl) (by kernel_rfl) ?_
    refine WL.nil (by kernel_rfl) ?_
    refine Go.weaken (l' := [(0, .int .i64 t0), (1, t1), (2, .int .i64 t2), (3, .int .i64 t3), (9, strA t25), (10, .bool t26)]) (Fr.sub_cons (by kernel_rfl) (Fr.sub_cons (by kernel_rfl) (Fr.sub_cons (by kernel_rfl) (Fr.sub_cons (by kernel_rfl) (Fr.sub_cons (by kernel_rfl) (Fr.sub_cons (by kernel_rfl) (Fr.sub_nil _))))))) ?_
    refine n9 ?_
    refine W.seqK (by kernel_rfl) (fun K16 n16 e16 r16 p16 => ?_)
    refine W.seqK (by kernel_rfl) (fun K17 n17 e17 r17 p17 => ?_)
    refine W.region (by kernel_rfl) ?_
    refine WL.val (d := (some 27)) (v := .bool t26) (h' := h_10) (by kernel_rfl) (by kernel_rfl) (by kernel_rfl) ?_
    replace hF := lett_some hF; obtain ⟨t28, e18, hF⟩ := hF
    refine WL.val (d := (some 28)) (v := .bool t28) (h' := h_10) (by kernel_rfl) (by kernel_rfl) (val_of AV.bool e18 (by kernel_rfl)) ?_
    refine WL.nil (by kernel_rfl) ?_
    refine Go.weaken (l' := [(0, .int .i64 t0), (1, t1), (2, .int .i64 t2), (3, .int .i64 t3), (9, strA t25), (28, .bool t28)]) (Fr.sub_cons (by kernel_rfl) (Fr.sub_cons (by kernel_rfl) (Fr.sub_cons (by kernel_rfl) (Fr.sub_cons (by kernel_rfl) (Fr.sub_cons (by kernel_rfl) (Fr.sub_cons (by kernel_rfl) (Fr.sub_nil _))))))) ?_
    refine n17 ?_
    cases t28 with
    | true =>
      replace hF := ifB_t hF
      refine W.cond_true (by kernel_rfl) (by kernel_rfl) ?_
      refine W.seqK (by kernel_rfl) (fun K19 n19 e19 r19 p19 => ?_)
      refine W.region (by kernel_rfl) ?_
      refine WL.val (d := (some 8)) (v := .bool true) (h' := h_10) (by kernel_rfl) (by kernel_rfl) (by kernel_rfl) ?_
      refine WL.nil (by kernel_rfl) ?_
      refine Go.weaken (l' := [(8, .bool true)]) (Fr.sub_cons (by kernel_rfl) (Fr.sub_nil _)) ?_
      refine n19 ?_
      refine W.ret (by kernel_rfl) ?_
      refine r16 ?_
      obtain ⟨hF, hF2⟩ := ret_inj hF; subst hF; subst hF2
      exact leave_of (rs := [.tmp 8]) (vs := [.bool true]) (by kernel_rfl) (res_tmp (by kernel_rfl) res_nil) (by kernel_rfl)
    | false =>
      replace hF := ifB_f hF
      refine W.cond_false (by kernel_rfl) (by kernel_rfl) ?_
      refine W.skip (by kernel_rfl) ?_
      refine n16 ?_
      refine W.seqK (by kernel_rfl) (fun K20 n20 e20 r20 p20 => ?_)
      refine W.region (by kernel_rfl) ?_
      refine WL.val (d := (some 30)) (v := .int .i64 t0) (h' := h_10) (by kernel_rfl) (by kernel_rfl) (by kernel_rfl) ?_
      replace hF := callN_some hF; obtain ⟨r31, h_21, e22, hF⟩ := hF
      refine WL.call (hc.ok w0) (d := (some 31)) (by kernel_rfl) (by kernel_rfl) (by kernel_rfl) e22 ?_
      refine WL.val (d := (some 29)) (v := r31) (h' := h_21) (by kernel_rfl) (by kernel_rfl) (by kernel_rfl) ?_
      replace hF := obind_some hF; obtain ⟨v32, e23, hF⟩ := hF
      refine WL.val (d := (some 32)) (v := v32) (h' := h_21) (by kernel_rfl) (by kernel_rfl) (Eq.trans (by kernel_rfl) (extract_tup (h := h_21) e23)) ?_
      replace hF := obind_some hF; obtain ⟨v33, e24, hF⟩ := hF
      replace hF := obind_some hF; obtain ⟨t33, c25, hF⟩ := hF
      have c25 := avInt_some c25
      subst c25
      refine WL.val (d := (some 33)) (v := .int .i64 t33) (h' := h_21) (by kernel_rfl) (by kernel_rfl) (Eq.trans (by kernel_rfl) (extract_tup (h := h_21) e24)) ?_
      refine WL.val (d := (some 11)) (v := v32) (h' := h_21) (by kernel_rfl) (by kernel_rfl) (by kernel_rfl) ?_
      refine WL.val (d := (some 12)) (v := .int .i64 t33) (h' := h_21) (by kernel_rfl) (by kernel_rfl) (by kernel_rfl) ?_
      refine WL.nil (by kernel_rfl) ?_
      refine Go.weaken (l' := [(0, .int .i64 t0), (1, t1), (2, .int .i64 t2), (3, .int .i64 t3), (9, strA t25), (12, .int .i64 t33)]) (Fr.sub_cons (by kernel_rfl) (Fr.sub_cons (by kernel_rfl) (Fr.sub_cons (by kernel_rfl) (Fr.sub_cons (by kernel_rfl) (Fr.sub_cons (by kernel_rfl) (Fr.sub_cons (by kernel_rfl) (Fr.sub_nil _))))))) ?_
      refine n20 ?_
      refine W.seqK (by kernel_rfl) (fun K26 n26 e26 r26 p26 => ?_)
      refine W.region (by kernel_rfl) ?_
      refine WL.val (d := (some 34)) (v := .int .i64 t0) (h' := h_21) (by kernel_rfl) (by kernel_rfl) (by kernel_rfl) ?_
      refine WL.val (d := (some 35)) (v := t1) (h' := h_21) (by kernel_rfl) (by kernel_rfl) (by kernel_rfl) ?_
      replace hF := callN_some hF; obtain ⟨r36, h_27, e28, hF⟩ := hF
      refine WL.call (hc.ok w0) (d := (some 36)) (by kernel_rfl) (by kernel_rfl) (by kernel_rfl) e28 ?_
      refine WL.val (d := (some 13)) (v := r36) (h' := h_27) (by kernel_rfl) (by kernel_rfl) (by kernel_rfl) ?_
      refine WL.nil (by kernel_rfl) ?_
      refine Go.weaken (l' := [(0, .int .i64 t0), (2, .int .i64 t2), (3, .int .i64 t3), (9, strA t25), (12, .int .i64 t33), (13, r36)]) (Fr.sub_cons (by kernel_rfl) (Fr.sub_cons (by kernel_rfl) (Fr.sub_cons (by kernel_rfl) (Fr.sub_cons (by kernel_rfl) (Fr.sub_cons (by kernel_rfl) (Fr.sub_cons (by kernel_rfl) (Fr.sub_nil _))))))) ?_
      refine n26 ?_
      refine W.seqK (by kernel_rfl) (fun K29 n29 e29 r29 p29 => ?_)
      refine W.seqK (by kernel_rfl) (fun K30 n30 e30 r30 p30 => ?_)
      refine W.region (by kernel_rfl) ?_
      refine WL.val (d := (some 37)) (v := .int .i64 t0) (h' := h_27) (by kernel_rfl) (by kernel_rfl) (by kernel_rfl) ?_
      replace hF := callN_some hF; obtain ⟨r38, h_31, e32, hF⟩ := hF
      replace hF := obind_some hF; obtain ⟨t38, c33, hF⟩ := hF
      have c33 := avBool_some c33
      subst c33
      refine WL.call (hc.ok w0) (d := (some 38)) (by kernel_rfl) (by kernel_rfl) (by kernel_rfl) e32 ?_
      replace hF := lett_some hF; obtain ⟨t39, e34, hF⟩ := hF
      refine WL.val (d := (some 39)) (v := .bool t39) (h' := h_31) (by kernel_rfl) (by kernel_rfl) (val_of AV.bool e34 (by kernel_rfl)) ?_
      refine WL.nil (by kernel_rfl) ?_
      refine Go.weaken (l' := [(0, .int .i64 t0), (2, .int .i64 t2), (3, .int .i64 t3), (9, strA t25), (12, .int .i64 t33), (13, r36), (39, .bool t39)]) (Fr.sub_cons (by kernel_rfl) (Fr.sub_cons (by kernel_rfl) (Fr.sub_cons (by kernel_rfl) (Fr.sub_cons (by kernel_rfl) (Fr.sub_cons (by kernel_rfl) (Fr.sub_cons (by kernel_rfl) (Fr.sub_cons (by kernel_rfl) (Fr.sub_nil _)))))))) ?_
      refine n30 ?_
      cases t39 with
      | true =>
        replace hF := ifB_t hF
        refine W.cond_true (by kernel_rfl) (by kernel_rfl) ?_
        refine W.seqK (by kernel_rfl) (fun K35 n35 e35 r35 p35 => ?_)
        refine W.region (by kernel_rfl) ?_
        refine WL.val (d := (some 40)) (v := .int .i64 t33) (h' := h_31) (by kernel_rfl) (by kernel_rfl) (by kernel_rfl) ?_
        replace hF := lett_some hF; obtain ⟨t41, e36, hF⟩ := hF
        refine WL.val (d := (some 41)) (v := .bool t41) (h' := h_31) (by kernel_rfl) (by kernel_rfl) (val_of AV.bool e36 (by kernel_rfl)) ?_
        refine WL.val (d := (some 42)) (v := .bool t41) (h' := h_31) (by kernel_rfl) (by kernel_rfl) (by kernel_rfl) ?_
        replace hF := lett_some hF; obtain ⟨j45, e38, hF⟩ := hF
        have J39 : ∀ (t45 : Bool) (h_37 : AHeap), j45 t45 h_37 = some (rR, hR) → WL Try.prog w0 m0 (Func.ntmps Try.f3) (Code.ops (Code.p1 (Code.p1 (Code.p2 (Code.p1 (Code.p2 (Code.p2 (Code.p2 (Code.p2 (Code.p2 (Code.p2 (codeOf Try.f3)))))))))))) 6 K35 [(45, .bool t45)] [] h_37 := by
          intro t45 h_37 hF
          rw [e38] at hF
          refine WL.val (d := (some 8)) (v := .bool t45) (h' := h_37) (by kernel_rfl) (by kernel_rfl) (by kernel_rfl) ?_
          refine WL.nil (by kernel_rfl) ?_
          refine Go.weaken (l' := [(8, .bool t45)]) (Fr.sub_cons (by kernel_rfl) (Fr.sub_nil _)) ?_
          refine n35 ?_
          refine W.ret (by kernel_rfl) ?_
          refine r29 ?_
          obtain ⟨hF, hF2⟩ := ret_inj hF; subst hF; subst hF2
          exact leave_of (rs := [.tmp 8]) (vs := [.bool t45]) (by kernel_rfl) (res_tmp (by kernel_rfl) res_nil) (by kernel_rfl)
        cases t41 with
        | true =>
          replace hF := ifB_t hF
          refine WL.val (d := (some 43)) (v := r36) (h' := h_31) (by kernel_rfl) (by kernel_rfl) (by kernel_rfl) ?_
          replace hF := outK_some hF; obtain ⟨v44, h_40, e41, hF⟩ := hF
          replace hF := obind_some hF; obtain ⟨t44, c42, hF⟩ := hF
          have c42 := avBool_some c42
          subst c42
          refine WL.val (d := (some 44)) (v := .bool t44) (h' := h_40) (by kernel_rfl) (by kernel_rfl) (Eq.trans (by kernel_rfl) e41) ?_
          refine WL.val (d := (some 45)) (v := .bool t44) (h' := h_40) (by kernel_rfl) (by kernel_rfl) (by kernel_rfl) ?_
          exact WL.weaken (Fr.sub_cons (by kernel_rfl) (Fr.sub_nil _)) (J39 _ _ hF)
        | false =>
          replace hF := ifB_f hF
          refine WL.not (d := (some 43)) (by kernel_rfl) (by kernel_rfl) ?_
          refine WL.not (d := (some 44)) (by kernel_rfl) (by kernel_rfl) ?_
          refine WL.val (d := (some 45)) (v := .bool false) (h' := h_31) (by kernel_rfl) (by kernel_rfl) (by kernel_rfl) ?_
          exact WL.weaken (Fr.sub_cons (by kernel_rfl) (Fr.sub_nil _)) (J39 _ _ hF)
      | false =>
        replace hF := ifB_f hF
        refine W.cond_false (by kernel_rfl) (by kernel_rfl) ?_
        refine W.skip (by kernel_rfl) ?_
        refine n29 ?_
        refine W.seqK (by kernel_rfl) (fun K43 n43 e43 r43 p43 => ?_)
        refine W.seqK (by kernel_rfl) (fun K44 n44 e44 r44 p44 => ?_)
        refine W.region (by kernel_rfl) ?_
        refine WL.val (d := (some 46)) (v := .int .i64 t33) (h' := h_31) (by kernel_rfl) (by kernel_rfl) (by kernel_rfl) ?_
        replace hF := lett_some hF; obtain ⟨t47, e45, hF⟩ := hF
        refine WL.val (d := (some 47)) (v := .bool t47) (h' := h_31) (by kernel_rfl) (by kernel_rfl) (val_of AV.bool e45 (by kernel_rfl)) ?_
        refine WL.val (d := (some 48)) (v := .bool t47) (h' := h_31) (by kernel_rfl) (by kernel_rfl) (by kernel_rfl) ?_
        replace hF := lett_some hF; obtain ⟨j51, e47, hF⟩ := hF
        have J48 : ∀ (t51 : Bool) (h_46 : AHeap), j51 t51 h_46 = some (rR, hR) → WL Try.prog w0 m0 (Func.ntmps Try.f3) (Code.ops (Code.p1 (Code.p1 (Code.p2 (Code.p2 (Code.p2 (Code.p2 (Code.p2 (Code.p2 (Code.p2 (codeOf Try.f3))))))))))) 6 K44 [(0, .int .i64 t0), (2, .int .i64 t2), (3, .int .i64 t3), (9, strA t25), (13, r36), (51, .bool t51)] [] h_46 := by
          intro t51 h_46 hF
          rw [e47] at hF
          refine WL.nil (by kernel_rfl) ?_
          refine Go.weaken (l' := [(0, .int .i64 t0), (2, .int .i64 t2), (3, .int .i64 t3), (9, strA t25), (13, r36), (51, .bool t51)]) (Fr.sub_cons (by kernel_rfl) (Fr.sub_cons (by kernel_rfl) (Fr.sub_cons (by kernel_rfl) (Fr.sub_cons (by kernel_rfl) (Fr.sub_cons (by kernel_rfl) (Fr.sub_cons (by kernel_rfl) (Fr.sub_nil _))))))) ?_
          refine n44 ?_
          cases t51 with
          | true =>
            replace hF := ifB_t hF
            refine W.cond_true (by kernel_rfl) (by kernel_rfl) ?_
            refine W.seqK (by kernel_rfl) (fun K49 n49 e49 r49 p49 => ?_)
            refine W.region (by kernel_rfl) ?_
            refine WL.val (d := (some 8)) (v := .bool false) (h' := h_46) (by kernel_rfl) (by kernel_rfl) (by kernel_rfl) ?_
            refine WL.nil (by kernel_rfl) ?_
            refine Go.weaken (l' := [(8, .bool false)]) (Fr.sub_cons (by kernel_rfl) (Fr.sub_nil _)) ?_
            refine n49 ?_
            refine W.ret (by kernel_rfl) ?_
            refine r43 ?_
            obtain ⟨hF, hF2⟩ := ret_inj hF; subst hF; subst hF2
            exact leave_of (rs := [.tmp 8]) (vs := [.bool false]) (by kernel_rfl) (res_tmp (by kernel_rfl) res_nil) (by kernel_rfl)
          | false =>
            replace hF := ifB_f hF
            refine W.cond_false (by kernel_rfl) (by kernel_rfl) ?_
            refine W.skip (by kernel_rfl) ?_
            refine n43 ?_
            refine W.seqK (by kernel_rfl) (fun K50 n50 e50 r50 p50 => ?_)
            refine W.region (by kernel_rfl) ?_
            refine WL.val (d := (some 53)) (v := r36) (h' := h_46) (by kernel_rfl) (by kernel_rfl) (by kernel_rfl) ?_
            refine WL.val (d := (some 54)) (v := .int .i64 t2) (h' := h_46) (by kernel_rfl) (by kernel_rfl) (by kernel_rfl) ?_
            refine WL.val (d := (some 55)) (v := .int .i64 t3) (h' := h_46) (by kernel_rfl) (by kernel_rfl) (by kernel_rfl) ?_
            replace hF := callN_some hF; obtain ⟨r56, h_51, e52, hF⟩ := hF
            refine WL.call (hc.ok w0) (d := (some 56)) (by kernel_rfl) (by kernel_rfl) (by kernel_rfl) e52 ?_
            refine WL.val (d := (some 52)) (v := r56) (h' := h_51) (by kernel_rfl) (by kernel_rfl) (by kernel_rfl) ?_
            replace hF := obind_some hF; obtain ⟨v57, e53, hF⟩ := hF
            replace hF := obind_some hF; obtain ⟨t57, c54, hF⟩ := hF
            have c54 := avStr_some c54
            subst c54
            refine WL.val (d := (some 57)) (v := strA t57) (h' := h_51) (by kernel_rfl) (by kernel_rfl) (Eq.trans (by kernel_rfl) (extract_tup (h := h_51) e53)) ?_
            replace hF := obind_some hF; obtain ⟨v58, e55, hF⟩ := hF
            replace hF := obind_some hF; obtain ⟨t58, c56, hF⟩ := hF
            have c56 := avInt_some c56
            subst c56
            refine WL.val (d := (some 58)) (v := .int .i64 t58) (h' := h_51) (by kernel_rfl) (by kernel_rfl) (Eq.trans (by kernel_rfl) (extract_tup (h := h_51) e55)) ?_
            replace hF := obind_some hF; obtain ⟨v59, e57, hF⟩ := hF
            replace hF := obind_some hF; obtain ⟨t59, c58, hF⟩ := hF
            have c58 := avInt_some c58
            subst c58
            refine WL.val (d := (some 59)) (v := .int .i64 t59) (h' := h_51) (by kernel_rfl) (by kernel_rfl) (Eq.trans (by kernel_rfl) (extract_tup (h := h_51) e57)) ?_
            refine WL.val (d := (some 14)) (v := strA t57) (h' := h_51) (by kernel_rfl) (by kernel_rfl) (by kernel_rfl) ?_
            refine WL.val (d := (some 15)) (v := .int .i64 t58) (h' := h_51) (by kernel_rfl) (by kernel_rfl) (by kernel_rfl) ?_
            refine WL.val (d := (some 16)) (v := .int .i64 t59) (h' := h_51) (by kernel_rfl) (by kernel_rfl) (by kernel_rfl) ?_
            refine WL.nil (by kernel_rfl) ?_
            refine Go.weaken (l' := [(0, .int .i64 t0), (2, .int .i64 t2), (3, .int .i64 t3), (9, strA t25), (13, r36), (14, strA t57), (15, .int .i64 t58), (16, .int .i64 t59)]) (Fr.sub_cons (by kernel_rfl) (Fr.sub_cons (by kernel_rfl) (Fr.sub_cons (by kernel_rfl) (Fr.sub_cons (by kernel_rfl) (Fr.sub_cons (by kernel_rfl) (Fr.sub_cons (by kernel_rfl) (Fr.sub_cons (by kernel_rfl) (Fr.sub_cons (by kernel_rfl) (Fr.sub_nil _))))))))) ?_
            refine n50 ?_
            refine W.seqK (by kernel_rfl) (fun K59 n59 e59 r59 p59 => ?_)
            refine W.region (by kernel_rfl) ?_
            refine WL.val (d := (some 61)) (v := strA t25) (h' := h_51) (by kernel_rfl) (by kernel_rfl) (by kernel_rfl) ?_
            refine WL.val (d := (some 62)) (v := .int .i64 t0) (h' := h_51) (by kernel_rfl) (by kernel_rfl) (by kernel_rfl) ?_
            refine WL.val (d := (some 63)) (v := .int .i64 t2) (h' := h_51) (by kernel_rfl) (by kernel_rfl) (by kernel_rfl) ?_
            refine WL.val (d := (some 64)) (v := .int .i64 t3) (h' := h_51) (by kernel_rfl) (by kernel_rfl) (by kernel_rfl) ?_
            replace hF := callN_some hF; obtain ⟨r65, h_60, e61, hF⟩ := hF
            refine WL.call (hc.ok w0) (d := (some 65)) (by kernel_rfl) (by kernel_rfl) (by kernel_rfl) e61 ?_
            refine WL.val (d := (some 60)) (v := r65) (h' := h_60) (by kernel_rfl) (by kernel_rfl) (by kernel_rfl) ?_
            replace hF := obind_some hF; obtain ⟨v66, e62, hF⟩ := hF
            replace hF := obind_some hF; obtain ⟨t66, c63, hF⟩ := hF
            have c63 := avStr_some c63
            subst c63
            refine WL.val (d := (some 66)) (v := strA t66) (h' := h_60) (by kernel_rfl) (by kernel_rfl) (Eq.trans (by kernel_rfl) (extract_tup (h := h_60) e62)) ?_
            replace hF := obind_some hF; obtain ⟨v67, e64, hF⟩ := hF
            replace hF := obind_some hF; obtain ⟨t67, c65, hF⟩ := hF
            have c65 := avInt_some c65
            subst c65
            refine WL.val (d := (some 67)) (v := .int .i64 t67) (h' := h_60) (by kernel_rfl) (by kernel_rfl) (Eq.trans (by kernel_rfl) (extract_tup (h := h_60) e64)) ?_
            replace hF := obind_some hF; obtain ⟨v68, e66, hF⟩ := hF
            replace hF := obind_some hF; obtain ⟨t68, c67, hF⟩ := hF
            have c67 := avInt_some c67
            subst c67
            refine WL.val (d := (some 68)) (v := .int .i64 t68) (h' := h_60) (by kernel_rfl) (by kernel_rfl) (Eq.trans (by kernel_rfl) (extract_tup (h := h_60) e66)) ?_
            refine WL.val (d := (some 17)) (v := strA t66) (h' := h_60) (by kernel_rfl) (by kernel_rfl) (by kernel_rfl) ?_
            refine WL.val (d := (some 18)) (v := .int .i64 t67) (h' := h_60) (by kernel_rfl) (by kernel_rfl) (by kernel_rfl) ?_
            refine WL.val (d := (some 19)) (v := .int .i64 t68) (h' := h_60) (by kernel_rfl) (by kernel_rfl) (by kernel_rfl) ?_
            refine WL.nil (by kernel_rfl) ?_
            refine Go.weaken (l' := [(0, .int .i64 t0), (9, strA t25), (13, r36), (14, strA t57), (15, .int .i64 t58), (16, .int .i64 t59), (17, strA t66), (18, .int .i64 t67), (19, .int .i64 t68)]) (Fr.sub_cons (by kernel_rfl) (Fr.sub_cons (by kernel_rfl) (Fr.sub_cons (by kernel_rfl) (Fr.sub_cons (by kernel_rfl) (Fr.sub_cons (by kernel_rfl) (Fr.sub_cons (by kernel_rfl) (Fr.sub_cons (by kernel_rfl) (Fr.sub_cons (by kernel_rfl) (Fr.sub_cons (by kernel_rfl) (Fr.sub_nil _)))))))))) ?_
            refine n59 ?_
            refine W.seqK (by kernel_rfl) (fun K68 n68 e68 r68 p68 => ?_)
            refine W.region (by kernel_rfl) ?_
            refine WL.val (d := (some 69)) (v := strA t57) (h' := h_60) (by kernel_rfl) (by kernel_rfl) (by kernel_rfl) ?_
            refine WL.val (d := (some 70)) (v := strA t66) (h' := h_60) (by kernel_rfl) (by kernel_rfl) (by kernel_rfl) ?_
            replace hF := lett_some hF; obtain ⟨t71, e69, hF⟩ := hF
            refine WL.val (d := (some 71)) (v := .bool t71) (h' := h_60) (by kernel_rfl) (by kernel_rfl) (val_of AV.bool e69 (by kernel_rfl)) ?_
            refine WL.val (d := (some 72)) (v := .bool t71) (h' := h_60) (by kernel_rfl) (by kernel_rfl) (by kernel_rfl) ?_
            replace hF := lett_some hF; obtain ⟨j76, e71, hF⟩ := hF
            have J72 : ∀ (t76 : Bool) (h_70 : AHeap), j76 t76 h_70 = some (rR, hR) → WL Try.prog w0 m0 (Func.ntmps Try.f3) (Code.ops (Code.p1 (Code.p2 (Code.p2 (Code.p2 (Code.p2 (Code.p2 (Code.p2 (Code.p2 (Code.p2 (Code.p2 (Code.p2 (codeOf Try.f3))))))))))))) 8 K68 [(0, .int .i64 t0), (9, strA t25), (13, r36), (16, .int .i64 t59), (19, .int .i64 t68), (76, .bool t76)] [] h_70 := by
              intro t76 h_70 hF
              rw [e71] at hF
              refine WL.val (d := (some 77)) (v := .bool t76) (h' := h_70) (by kernel_rfl) (by kernel_rfl) (by kernel_rfl) ?_
              replace hF := lett_some hF; obtain ⟨j81, e74, hF⟩ := hF
              have J75 : ∀ (t81 : Bool) (h_73 : AHeap), j81 t81 h_73 = some (rR, hR) → WL Try.prog w0 m0 (Func.ntmps Try.f3) (Code.ops (Code.p1 (Code.p2 (Code.p2 (Code.p2 (Code.p2 (Code.p2 (Code.p2 (Code.p2 (Code.p2 (Code.p2 (Code.p2 (codeOf Try.f3))))))))))))) 13 K68 [(0, .int .i64 t0), (9, strA t25), (13, r36), (81, .bool t81)] [] h_73 := by
                intro t81 h_73 hF
                rw [e74] at hF
                refine WL.val (d := (some 82)) (v := .bool t81) (h' := h_73) (by kernel_rfl) (by kernel_rfl) (by kernel_rfl) ?_
                replace hF := lett_some hF; obtain ⟨j88, e77, hF⟩ := hF
                have J78 : ∀ (t88 : Bool) (h_76 : AHeap), j88 t88 h_76 = some (rR, hR) → WL Try.prog w0 m0 (Func.ntmps Try.f3) (Code.ops (Code.p1 (Code.p2 (Code.p2 (Code.p2 (Code.p2 (Code.p2 (Code.p2 (Code.p2 (Code.p2 (Code.p2 (Code.p2 (codeOf Try.f3))))))))))))) 20 K68 [(0, .int .i64 t0), (9, strA t25), (13, r36), (88, .bool t88)] [] h_76 := by
                  intro t88 h_76 hF
                  rw [e77] at hF
                  refine WL.val (d := (some 89)) (v := .bool t88) (h' := h_76) (by kernel_rfl) (by kernel_rfl) (by kernel_rfl) ?_
                  replace hF := lett_some hF; obtain ⟨j96, e80, hF⟩ := hF
                  have J81 : ∀ (t96 : Bool) (h_79 : AHeap), j96 t96 h_79 = some (rR, hR) → WL Try.prog w0 m0 (Func.ntmps Try.f3) (Code.ops (Code.p1 (Code.p2 (Code.p2 (Code.p2 (Code.p2 (Code.p2 (Code.p2 (Code.p2 (Code.p2 (Code.p2 (Code.p2 (codeOf Try.f3))))))))))))) 28 K68 [(96, .bool t96)] [] h_79 := by
                    intro t96 h_79 hF
                    rw [e80] at hF
                    refine WL.val (d := (some 8)) (v := .bool t96) (h' := h_79) (by kernel_rfl) (by kernel_rfl) (by kernel_rfl) ?_
                    refine WL.nil (by kernel_rfl) ?_
                    refine Go.weaken (l' := [(8, .bool t96)]) (Fr.sub_cons (by kernel_rfl) (Fr.sub_nil _)) ?_
                    refine n68 ?_
                    refine W.ret (by kernel_rfl) ?_
                    obtain ⟨hF, hF2⟩ := ret_inj hF; subst hF; subst hF2
                    exact leave_of (rs := [.tmp 8]) (vs := [.bool t96]) (by kernel_rfl) (res_tmp (by kernel_rfl) res_nil) (by kernel_rfl)
                  cases t88 with
                  | true =>
                    replace hF := ifB_t hF
                    refine WL.val (d := (some 90)) (v := r36) (h' := h_76) (by kernel_rfl) (by kernel_rfl) (by kernel_rfl) ?_
                    replace hF := callN_some hF; obtain ⟨r91, h_82, e83, hF⟩ := hF
                    replace hF := obind_some hF; obtain ⟨t91, c84, hF⟩ := hF
                    have c84 := avInt_some c84
                    subst c84
                    refine WL.call (hc.ok w0) (d := (some 91)) (by kernel_rfl) (by kernel_rfl) (by kernel_rfl) e83 ?_
                    refine WL.val (d := (some 92)) (v := strA t25) (h' := h_82) (by kernel_rfl) (by kernel_rfl) (by kernel_rfl) ?_
                    refine WL.val (d := (some 93)) (v := .int .i64 t0) (h' := h_82) (by kernel_rfl) (by kernel_rfl) (by kernel_rfl) ?_
                    replace hF := callN_some hF; obtain ⟨r94, h_85, e86, hF⟩ := hF
                    replace hF := obind_some hF; obtain ⟨t94, c87, hF⟩ := hF
                    have c87 := avInt_some c87
                    subst c87
                    refine WL.call (hc.ok w0) (d := (some 94)) (by kernel_rfl) (by kernel_rfl) (by kernel_rfl) e86 ?_
                    replace hF := lett_some hF; obtain ⟨t95, e88, hF⟩ := hF
                    refine WL.val (d := (some 95)) (v := .bool t95) (h' := h_85) (by kernel_rfl) (by kernel_rfl) (val_of AV.bool e88 (by kernel_rfl)) ?_
                    refine WL.val (d := (some 96)) (v := .bool t95) (h' := h_85) (by kernel_rfl) (by kernel_rfl) (by kernel_rfl) ?_
                    exact WL.weaken (Fr.sub_cons (by kernel_rfl) (Fr.sub_nil _)) (J81 _ _ hF)
                  | false =>
                    replace hF := ifB_f hF
                    refine WL.not (d := (some 90)) (by kernel_rfl) (by kernel_rfl) ?_
                    refine WL.not (d := (some 91)) (by kernel_rfl) (by kernel_rfl) ?_
                    refine WL.not (d := (some 92)) (by kernel_rfl) (by kernel_rfl) ?_
                    refine WL.not (d := (some 93)) (by kernel_rfl) (by kernel_rfl) ?_
                    refine WL.not (d := (some 94)) (by kernel_rfl) (by kernel_rfl) ?_
                    refine WL.not (d := (some 95)) (by kernel_rfl) (by kernel_rfl) ?_
                    refine WL.val (d := (some 96)) (v := .bool false) (h' := h_76) (by kernel_rfl) (by kernel_rfl) (by kernel_rfl) ?_
                    exact WL.weaken (Fr.sub_cons (by kernel_rfl) (Fr.sub_nil _)) (J81 _ _ hF)
                cases t81 with
                | true =>
                  replace hF := ifB_t hF
                  refine WL.val (d := (some 83)) (v := r36) (h' := h_73) (by kernel_rfl) (by kernel_rfl) (by kernel_rfl) ?_
                  replace hF := callN_some hF; obtain ⟨r84, h_89, e90, hF⟩ := hF
                  replace hF := obind_some hF; obtain ⟨t84, c91, hF⟩ := hF
                  have c91 := avInt_some c91
                  subst c91
                  refine WL.call (hc.ok w0) (d := (some 84)) (by kernel_rfl) (by kernel_rfl) (by kernel_rfl) e90 ?_
                  refine WL.val (d := (some 85)) (v := strA t25) (h' := h_89) (by kernel_rfl) (by kernel_rfl) (by kernel_rfl) ?_
                  refine WL.val (d := (some 86)) (v := .int .i64 (lenS t25)) (h' := h_89) (by kernel_rfl) (by kernel_rfl) (by kernel_rfl) ?_
                  replace hF := lett_some hF; obtain ⟨t87, e92, hF⟩ := hF
                  refine WL.val (d := (some 87)) (v := .bool t87) (h' := h_89) (by kernel_rfl) (by kernel_rfl) (val_of AV.bool e92 (by kernel_rfl)) ?_
                  refine WL.val (d := (some 88)) (v := .bool t87) (h' := h_89) (by kernel_rfl) (by kernel_rfl) (by kernel_rfl) ?_
                  exact WL.weaken (Fr.sub_cons (by kernel_rfl) (Fr.sub_cons (by kernel_rfl) (Fr.sub_cons (by kernel_rfl) (Fr.sub_cons (by kernel_rfl) (Fr.sub_nil _))))) (J78 _ _ hF)
                | false =>
                  replace hF := ifB_f hF
                  refine WL.not (d := (some 83)) (by kernel_rfl) (by kernel_rfl) ?_
                  refine WL.not (d := (some 84)) (by kernel_rfl) (by kernel_rfl) ?_
                  refine WL.not (d := (some 85)) (by kernel_rfl) (by kernel_rfl) ?_
                  refine WL.not (d := (some 86)) (by kernel_rfl) (by kernel_rfl) ?_
                  refine WL.not (d := (some 87)) (by kernel_rfl) (by kernel_rfl) ?_
                  refine WL.val (d := (some 88)) (v := .bool false) (h' := h_73) (by kernel_rfl) (by kernel_rfl) (by kernel_rfl) ?_
                  exact WL.weaken (Fr.sub_cons (by kernel_rfl) (Fr.sub_cons (by kernel_rfl) (Fr.sub_cons (by kernel_rfl) (Fr.sub_cons (by kernel_rfl) (Fr.sub_nil _))))) (J78 _ _ hF)
              cases t76 with
              | true =>
                replace hF := ifB_t hF
                refine WL.val (d := (some 78)) (v := .int .i64 t59) (h' := h_70) (by kernel_rfl) (by kernel_rfl) (by kernel_rfl) ?_
                refine WL.val (d := (some 79)) (v := .int .i64 t68) (h' := h_70) (by kernel_rfl) (by kernel_rfl) (by kernel_rfl) ?_
                replace hF := lett_some hF; obtain ⟨t80, e93, hF⟩ := hF
                refine WL.val (d := (some 80)) (v := .bool t80) (h' := h_70) (by kernel_rfl) (by kernel_rfl) (val_of AV.bool e93 (by kernel_rfl)) ?_
                refine WL.val (d := (some 81)) (v := .bool t80) (h' := h_70) (by kernel_rfl) (by kernel_rfl) (by kernel_rfl) ?_
                exact WL.weaken (Fr.sub_cons (by kernel_rfl) (Fr.sub_cons (by kernel_rfl) (Fr.sub_cons (by kernel_rfl) (Fr.sub_cons (by kernel_rfl) (Fr.sub_nil _))))) (J75 _ _ hF)
              | false =>
                replace hF := ifB_f hF
                refine WL.not (d := (some 78)) (by kernel_rfl) (by kernel_rfl) ?_
                refine WL.not (d := (some 79)) (by kernel_rfl) (by kernel_rfl) ?_
                refine WL.not (d := (some 80)) (by kernel_rfl) (by kernel_rfl) ?_
                refine WL.val (d := (some 81)) (v := .bool false) (h' := h_70) (by kernel_rfl) (by kernel_rfl) (by kernel_rfl) ?_
                exact WL.weaken (Fr.sub_cons (by kernel_rfl) (Fr.sub_cons (by kernel_rfl) (Fr.sub_cons (by kernel_rfl) (Fr.sub_cons (by kernel_rfl) (Fr.sub_nil _))))) (J75 _ _ hF)
            cases t71 with
            | true =>
              replace hF := ifB_t hF
              refine WL.val (d := (some 73)) (v := .int .i64 t58) (h' := h_60) (by kernel_rfl) (by kernel_rfl) (by kernel_rfl) ?_
              refine WL.val (d := (some 74)) (v := .int .i64 t67) (h' := h_60) (by kernel_rfl) (by kernel_rfl) (by kernel_rfl) ?_
              replace hF := lett_some hF; obtain ⟨t75, e94, hF⟩ := hF
              refine WL.val (d := (some 75)) (v := .bool t75) (h' := h_60) (by kernel_rfl) (by kernel_rfl) (val_of AV.bool e94 (by kernel_rfl)) ?_
              refine WL.val (d := (some 76)) (v := .bool t75) (h' := h_60) (by kernel_rfl) (by kernel_rfl) (by kernel_rfl) ?_
              exact WL.weaken (Fr.sub_cons (by kernel_rfl) (Fr.sub_cons (by kernel_rfl) (Fr.sub_cons (by kernel_rfl) (Fr.sub_cons (by kernel_rfl) (Fr.sub_cons (by kernel_rfl) (Fr.sub_cons (by kernel_rfl) (Fr.sub_nil _))))))) (J72 _ _ hF)
            | false =>
              replace hF := ifB_f hF
              refine WL.not (d := (some 73)) (by kernel_rfl) (by kernel_rfl) ?_
              refine WL.not (d := (some 74)) (by kernel_rfl) (by kernel_rfl) ?_
              refine WL.not (d := (some 75)) (by kernel_rfl) (by kernel_rfl) ?_
              refine WL.val (d := (some 76)) (v := .bool false) (h' := h_60) (by kernel_rfl) (by kernel_rfl) (by kernel_rfl) ?_
              exact WL.weaken (Fr.sub_cons (by kernel_rfl) (Fr.sub_cons (by kernel_rfl) (Fr.sub_cons (by kernel_rfl) (Fr.sub_cons (by kernel_rfl) (Fr.sub_cons (by kernel_rfl) (Fr.sub_cons (by kernel_rfl) (Fr.sub_nil _))))))) (J72 _ _ hF)
        cases t47 with
        | true =>
          replace hF := ifB_t hF
          refine WL.not (d := (some 49)) (by kernel_rfl) (by kernel_rfl) ?_
          refine WL.not (d := (some 50)) (by kernel_rfl) (by kernel_rfl) ?_
          refine WL.val (d := (some 51)) (v := .bool true) (h' := h_31) (by kernel_rfl) (by kernel_rfl) (by kernel_rfl) ?_
          exact WL.weaken (Fr.sub_cons (by kernel_rfl) (Fr.sub_cons (by kernel_rfl) (Fr.sub_cons (by kernel_rfl) (Fr.sub_cons (by kernel_rfl) (Fr.sub_cons (by kernel_rfl) (Fr.sub_cons (by kernel_rfl) (Fr.sub_nil _))))))) (J48 _ _ hF)
        | false =>
          replace hF := ifB_f hF
          refine WL.val (d := (some 49)) (v := r36) (h' := h_31) (by kernel_rfl) (by kernel_rfl) (by kernel_rfl) ?_
          replace hF := outK_some hF; obtain ⟨v50, h_95, e96, hF⟩ := hF
          replace hF := obind_some hF; obtain ⟨t50, c97, hF⟩ := hF
          have c97 := avBool_some c97
          subst c97
          refine WL.val (d := (some 50)) (v := .bool t50) (h' := h_95) (by kernel_rfl) (by kernel_rfl) (Eq.trans (by kernel_rfl) e96) ?_
          refine WL.val (d := (some 51)) (v := .bool t50) (h' := h_95) (by kernel_rfl) (by kernel_rfl) (by kernel_rfl) ?_
          exact WL.weaken (Fr.sub_cons (by kernel_rfl) (Fr.sub_cons (by kernel_rfl) (Fr.sub_cons (by kernel_rfl) (Fr.sub_cons (by kernel_rfl) (Fr.sub_cons (by kernel_rfl) (Fr.sub_cons (by kernel_rfl) (Fr.sub_nil _))))))) (J48 _ _ hF)
noncomputable def law21_RingTells_fn (call : CallF) (n : Nat) : FnT := fun args h => match args with
  | [x0, x1, x2, x3] => obind (avInt .i64 x0) fun t0 => obind (avInt .i64 x2) fun t2 => obind (avInt .i64 x3) fun t3 => law21_RingTells call n t0 x1 t2 t3 h
  | _ => none
set_option maxRecDepth 100000 in
theorem law21_RingTells_fn_eq (call : CallF) (n : Nat) (t0 : Int) (t1 : AV) (t2 : Int) (t3 : Int) (h : AHeap) : law21_RingTells_fn call n [.int .i64 t0, t1, .int .i64 t2, .int .i64 t3] h = law21_RingTells call n t0 t1 t2 t3 h :=
  (Eq.trans (obind_eq (fun t0 => obind (avInt .i64 (.int .i64 t2)) fun t2 => obind (avInt .i64 (.int .i64 t3)) fun t3 => law21_RingTells call n t0 t1 t2 t3 h) (avInt_int .i64 t0)) (Eq.trans (obind_eq (fun t2 => obind (avInt .i64 (.int .i64 t3)) fun t3 => law21_RingTells call n t0 t1 t2 t3 h) (avInt_int .i64 t2)) (Eq.trans (obind_eq (fun t3 => law21_RingTells call n t0 t1 t2 t3 h) (avInt_int .i64 t3)) rfl)))
theorem law21_RingTells_holds {call : CallF} (hc : SaysAll Try.prog call) (n : Nat) : Holds Try.prog 3 (law21_RingTells_fn call n) := by
  intro args h r h2 e
  unfold law21_RingTells_fn at e
  split at e
  · replace e := obind_some e; obtain ⟨t0, c0, e⟩ := e; have c0 := avInt_some c0; subst c0
    replace e := obind_some e; obtain ⟨t2, c2, e⟩ := e; have c2 := avInt_some c2; subst c2
    replace e := obind_some e; obtain ⟨t3, c3, e⟩ := e; have c3 := avInt_some c3; subst c3
    exact law21_RingTells_ok hc e
  · cases e

noncomputable def law21_RingPieces (call : CallF) (_ : Nat) (t0 : Int) (t1 : AV) (h : AHeap) : R :=
  callN (call 8 [] h) fun r15 h_4 =>
  obind (avBool r15) fun t15 =>
  lett (!t15) fun (t16 : Bool) =>
  ifB t16
  (
    some (.ret (.bool false), h_4))
  (
    callN (call 9 [t1] h_4) fun r19 h_10 =>
    obind (extT 0 r19) fun v20 =>
    obind (avStr v20) fun t20 =>
    obind (extT 1 r19) fun v21 =>
    obind (avBool v21) fun t21 =>
    lett (!t21) fun (t23 : Bool) =>
    ifB t23
    (
      some (.ret (.bool true), h_10))
    (
      callN (call 11 [.int .i64 t0, t1] h_10) fun r26 h_21 =>
      outK (bldSl Try.prog h_21 22 1 [(0, strA t20)]) fun v29 h_23 =>
      callN (call 11 [.int .i64 t0, v29] h_23) fun r30 h_25 =>
      outK (opBin Try.prog h_25 .eql 26 true (some r26) (some AV.nilp)) fun v32 h_29 =>
      obind (avBool v32) fun t32 =>
      lett (fun (t36 : Bool) (h_32 : AHeap) =>
        ifB t36
        (
          outK (opBin Try.prog h_32 .eql 26 true (some r26) (some AV.nilp)) fun v38 h_36 =>
          obind (avBool v38) fun t38 =>
          lett (fun (t42 : Bool) (h_39 : AHeap) =>
            some (.ret (.bool t42), h_39)) fun j42 =>
          ifB t38
          (
            outK (opBin Try.prog h_36 .eql 26 true (some r30) (some AV.nilp)) fun v41 h_42 =>
            obind (avBool v41) fun t41 =>
            j42 t41 h_42)
          (
            j42 false h_36))
        (
          callN (call 13 [r26, .int .i64 0, .int .i64 1048576] h_32) fun r45 h_46 =>
          obind (extT 0 r45) fun v46 =>
          obind (avStr v46) fun t46 =>
          obind (extT 1 r45) fun v47 =>
          obind (avInt .i64 v47) fun t47 =>
          obind (extT 2 r45) fun v48 =>
          obind (avInt .i64 v48) fun t48 =>
          callN (call 13 [r30, .int .i64 0, .int .i64 1048576] h_46) fun r51 h_55 =>
          obind (extT 0 r51) fun v52 =>
          obind (avStr v52) fun t52 =>
          obind (extT 1 r51) fun v53 =>
          obind (avInt .i64 v53) fun t53 =>
          obind (extT 2 r51) fun v54 =>
          obind (avInt .i64 v54) fun t54 =>
          lett (eqS t46 t52) fun (t57 : Bool) =>
          lett (fun (t62 : Bool) (h_65 : AHeap) =>
            lett (fun (t66 : Bool) (h_68 : AHeap) =>
              lett (fun (t70 : Bool) (h_71 : AHeap) =>
                lett (fun (t77 : Bool) (h_74 : AHeap) =>
                  lett (fun (t84 : Bool) (h_77 : AHeap) =>
                    some (.ret (.bool t84), h_77)) fun j84 =>
                  ifB t77
                  (
                    callN (call 16 [r26] h_74) fun r80 h_80 =>
                    obind (avInt .i64 r80) fun t80 =>
                    callN (call 16 [r30] h_80) fun r82 h_83 =>
                    obind (avInt .i64 r82) fun t82 =>
                    lett ((t80 : Int) == t82) fun (t83 : Bool) =>
                    j84 t83 h_83)
                  (
                    j84 false h_74)) fun j77 =>
                ifB t70
                (
                  callN (call 15 [r26] h_71) fun r73 h_87 =>
                  obind (avInt .i64 r73) fun t73 =>
                  callN (call 15 [r30] h_87) fun r75 h_90 =>
                  obind (avInt .i64 r75) fun t75 =>
                  lett ((t73 : Int) == t75) fun (t76 : Bool) =>
                  j77 t76 h_90)
                (
                  j77 false h_71)) fun j70 =>
              ifB t66
              (
                lett ((t54 : Int) == 0) fun (t69 : Bool) =>
                j70 t69 h_68)
              (
                j70 false h_68)) fun j66 =>
            ifB t62
            (
              lett ((t48 : Int) == 0) fun (t65 : Bool) =>
              j66 t65 h_65)
            (
              j66 false h_65)) fun j62 =>
          ifB t57
          (
            lett ((t47 : Int) == t53) fun (t61 : Bool) =>
            j62 t61 h_55)
          (
            j62 false h_55))) fun j36 =>
      ifB t32
      (
        j36 true h_29)
      (
        outK (opBin Try.prog h_29 .eql 26 true (some r30) (some AV.nilp)) fun v35 h_97 =>
        obind (avBool v35) fun t35 =>
        j36 t35 h_97)))
set_option maxHeartbeats 4000000 in
set_option maxRecDepth 20000 in
theorem law21_RingPieces_ok {call : CallF} (hc : SaysAll Try.prog call) {n : Nat} {t0 : Int} {t1 : AV} {h : AHeap} {rR : ARes} {hR : AHeap} (hF : law21_RingPieces call n t0 t1 h = some (rR, hR)) : Says Try.prog 4 [.int .i64 t0, t1] h rR hR := by
  unfold law21_RingPieces at hF
  refine says_of (fn := Try.f4) Try.func4 (c := codeOf Try.f4) (by kernel_rfl) (by kernel_rfl) (fun w0 m0 => ?_)
  refine W.weaken (l' := [(0, .int .i64 t0), (1, t1)]) (Fr.sub_cons (by kernel_rfl) (Fr.sub_cons (by kernel_rfl) (Fr.sub_nil _))) ?_
  refine W.seqK (by kernel_rfl) (fun K1 n1 e1 r1 p1 => ?_)
  refine W.region (by kernel_rfl) ?_
  refine WL.val (d := (some 4)) (v := .bool false) (h' := h) (by kernel_rfl) (by kernel_rfl) (by kernel_rfl) ?_
  refine WL.nil (by kernel_rfl) ?_
  refine Go.weaken (l' := [(0, .int .i64 t0), (1, t1)]) (Fr.sub_cons (by kernel_rfl) (Fr.sub_cons (by kernel_rfl) (Fr.sub_nil _))) ?_
  refine n1 ?_
  refine W.seqK (by kernel_rfl) (fun K2 n2 e2 r2 p2 => ?_)
  refine W.seqK (by kernel_rfl) (fun K3 n3 e3 r3 p3 => ?_)
  refine W.region (by kernel_rfl) ?_
  replace hF := callN_some hF; obtain ⟨r15, h_4, e5, hF⟩ := hF
  replace hF := obind_some hF; obtain ⟨t15, c6, hF⟩ := hF
  have c6 := avBool_some c6
  subst c6
  refine WL.call (hc.ok w0) (d := (some 15)) (by kernel_rfl) (by kernel_rfl) (by kernel_rfl) e5 ?_
  replace hF := lett_some hF; obtain ⟨t16, e7, hF⟩ := hF
  refine WL.val (d := (some 16)) (v := .bool t16) (h' := h_4) (by kernel_rfl) (by kernel_rfl) (val_of AV.bool e7 (by kernel_rfl)) ?_
  refine WL.nil (by kernel_rfl) ?_
  refine Go.weaken (l' := [(0, .int .i64 t0), (1, t1), (16, .bool t16)]) (Fr.sub_cons (by kernel_rfl) (Fr.sub_cons (by kernel_rfl) (Fr.sub_cons (by kernel_rfl) (Fr.sub_nil _)))) ?_
  refine n3 ?_
  cases t16 with
  | true =>
    replace hF := ifB_t hF
    refine W.cond_true (by kernel_rfl) (by kernel_rfl) ?_
    refine W.seqK (by kernel_rfl) (fun K8 n8 e8 r8 p8 => ?_)
    refine W.region (by kernel_rfl) ?_
    refine WL.val (d := (some 4)) (v := .bool false) (h' := h_4) (by kernel_rfl) (by kernel_rfl) (by kernel_rfl) ?_
    refine WL.nil (by kernel_rfl) ?_
    refine Go.weaken (l' := [(4, .bool false)]) (Fr.sub_cons (by kernel_rfl) (Fr.sub_nil _)) ?_
    refine n8 ?_
    refine W.ret (by kernel_rfl) ?_
    refine r2 ?_
    obtain ⟨hF, hF2⟩ := ret_inj hF; subst hF; subst hF2
    exact leave_of (rs := [.tmp 4]) (vs := [.bool false]) (by kernel_rfl) (res_tmp (by kernel_rfl) res_nil) (by kernel_rfl)
  | false =>
    replace hF := ifB_f hF
    refine W.cond_false (by kernel_rfl) (by kernel_rfl) ?_
    refine W.skip (by kernel_rfl) ?_
    refine n2 ?_
    refine W.seqK (by kernel_rfl) (fun K9 n9 e9 r9 p9 => ?_)
    refine W.region (by kernel_rfl) ?_
    refine WL.val (d := (some 18)) (v := t1) (h' := h_4) (by kernel_rfl) (by kernel_rfl) (by kernel_rfl) ?_
    replace hF := callN_some hF; obtain ⟨r19, h_10, e11, hF⟩ := hF
    refine WL.call (hc.ok w0) (d := (some 19)) (by kernel_rfl) (by kernel_rfl) (by kernel_rfl) e11 ?_
    refine WL.val (d := (some 17)) (v := r19) (h' := h_10) (by kernel_rfl) (by kernel_rfl) (by kernel_rfl) ?_
    replace hF := obind_some hF; obtain ⟨v20, e12, hF⟩ := hF
    replace hF := obind_some hF; obtain ⟨t20, c13, hF⟩ := hF
    have c13 := avStr_some c13
    subst c13
    refine WL.val (d := (some 20)) (v := strA t20) (h' := h_10) (by kernel_rfl) (by kernel_rfl) (Eq.trans (by kernel_rfl) (extract_tup (h := h_10) e12)) ?_
    replace hF := obind_some hF; obtain ⟨v21, e14, hF⟩ := hF
    replace hF := obind_some hF; obtain ⟨t21, c15, hF⟩ := hF
    have c15 := avBool_some c15
    subst c15
    refine WL.val (d := (some 21)) (v := .bool t21) (h' := h_10) (by kernel_rfl) (by kernel_rfl) (Eq.trans (by kernel_rfl) (extract_tup (h := h_10) e14)) ?_
    refine WL.val (d := (some 5)) (v := strA t20) (h' := h_10) (by kernel_rfl) (by kernel_rfl) (by kernel_rfl) ?_
    refine WL.val (d := (some 6)) (v := .bool t21) (h' := h_10) (by kernel_rfl) (by kernel_rfl) (by kernel_rfl) ?_
    refine WL.nil (by kernel_rfl) ?_
    refine Go.weaken (l' := [(0, .int .i64 t0), (1, t1), (5, strA t20), (6, .bool t21)]) (Fr.sub_cons (by kernel_rfl) (Fr.sub_cons (by kernel_rfl) (Fr.sub_cons (by kernel_rfl) (Fr.sub_cons (by kernel_rfl) (Fr.sub_nil _))))) ?_
    refine n9 ?_
    refine W.seqK (by kernel_rfl) (fun K16 n16 e16 r16 p16 => ?_)
    refine W.seqK (by kernel_rfl) (fun K17 n17 e17 r17 p17 => ?_)
    refine W.region (by kernel_rfl) ?_
    refine WL.val (d := (some 22)) (v := .bool t21) (h' := h_10) (by kernel_rfl) (by kernel_rfl) (by kernel_rfl) ?_
    replace hF := lett_some hF; obtain ⟨t23, e18, hF⟩ := hF
    refine WL.val (d := (some 23)) (v := .bool t23) (h' := h_10) (by kernel_rfl) (by kernel_rfl) (val_of AV.bool e18 (by kernel_rfl)) ?_
    refine WL.nil (by kernel_rfl) ?_
    refine Go.weaken (l' := [(0, .int .i64 t0), (1, t1), (5, strA t20), (23, .bool t23)]) (Fr.sub_cons (by kernel_rfl) (Fr.sub_cons (by kernel_rfl) (Fr.sub_cons (by kernel_rfl) (Fr.sub_cons (by kernel_rfl) (Fr.sub_nil _))))) ?_
    refine n17 ?_
    cases t23 with
    | true =>
      replace hF := ifB_t hF
      refine W.cond_true (by kernel_rfl) (by kernel_rfl) ?_
      refine W.seqK (by kernel_rfl) (fun K19 n19 e19 r19 p19 => ?_)
      refine W.region (by kernel_rfl) ?_
      refine WL.val (d := (some 4)) (v := .bool true) (h' := h_10) (by kernel_rfl) (by kernel_rfl) (by kernel_rfl) ?_
      refine WL.nil (by kernel_rfl) ?_
      refine Go.weaken (l' := [(4, .bool true)]) (Fr.sub_cons (by kernel_rfl) (Fr.sub_nil _)) ?_
      refine n19 ?_
      refine W.ret (by kernel_rfl) ?_
      refine r16 ?_
      obtain ⟨hF, hF2⟩ := ret_inj hF; subst hF; subst hF2
      exact leave_of (rs := [.tmp 4]) (vs := [.bool true]) (by kernel_rfl) (res_tmp (by kernel_rfl) res_nil) (by kernel_rfl)
    | false =>
      replace hF := ifB_f hF
      refine W.cond_false (by kernel_rfl) (by kernel_rfl) ?_
      refine W.skip (by kernel_rfl) ?_
      refine n16 ?_
      refine W.seqK (by kernel_rfl) (fun K20 n20 e20 r20 p20 => ?_)
      refine W.region (by kernel_rfl) ?_
      refine WL.val (d := (some 24)) (v := .int .i64 t0) (h' := h_10) (by kernel_rfl) (by kernel_rfl) (by kernel_rfl) ?_
      refine WL.val (d := (some 25)) (v := t1) (h' := h_10) (by kernel_rfl) (by kernel_rfl) (by kernel_rfl) ?_
      replace hF := callN_some hF; obtain ⟨r26, h_21, e22, hF⟩ := hF
      refine WL.call (hc.ok w0) (d := (some 26)) (by kernel_rfl) (by kernel_rfl) (by kernel_rfl) e22 ?_
      refine WL.val (d := (some 27)) (v := .int .i64 t0) (h' := h_21) (by kernel_rfl) (by kernel_rfl) (by kernel_rfl) ?_
      refine WL.val (d := (some 28)) (v := strA t20) (h' := h_21) (by kernel_rfl) (by kernel_rfl) (by kernel_rfl) ?_
      replace hF := outK_some hF; obtain ⟨v29, h_23, e24, hF⟩ := hF
      refine WL.val (d := (some 29)) (v := v29) (h' := h_23) (by kernel_rfl) (by kernel_rfl) (Eq.trans (by kernel_rfl) e24) ?_
      replace hF := callN_some hF; obtain ⟨r30, h_25, e26, hF⟩ := hF
      refine WL.call (hc.ok w0) (d := (some 30)) (by kernel_rfl) (by kernel_rfl) (by kernel_rfl) e26 ?_
      refine WL.val (d := (some 7)) (v := r26) (h' := h_25) (by kernel_rfl) (by kernel_rfl) (by kernel_rfl) ?_
      refine WL.val (d := (some 8)) (v := r30) (h' := h_25) (by kernel_rfl) (by kernel_rfl) (by kernel_rfl) ?_
      refine WL.nil (by kernel_rfl) ?_
      refine Go.weaken (l' := [(7, r26), (8, r30)]) (Fr.sub_cons (by kernel_rfl) (Fr.sub_cons (by kernel_rfl) (Fr.sub_nil _))) ?_
      refine n20 ?_
      refine W.seqK (by kernel_rfl) (fun K27 n27 e27 r27 p27 => ?_)
      refine W.seqK (by kernel_rfl) (fun K28 n28 e28 r28 p28 => ?_)
      refine W.region (by kernel_rfl) ?_
      refine WL.val (d := (some 31)) (v := r26) (h' := h_25) (by kernel_rfl) (by kernel_rfl) (by kernel_rfl) ?_
      replace hF := outK_some hF; obtain ⟨v32, h_29, e30, hF⟩ := hF
      replace hF := obind_some hF; obtain ⟨t32, c31, hF⟩ := hF
      have c31 := avBool_some c31
      subst c31
      refine WL.val (d := (some 32)) (v := .bool t32) (h' := h_29) (by kernel_rfl) (by kernel_rfl) (Eq.trans (by kernel_rfl) e30) ?_
      refine WL.val (d := (some 33)) (v := .bool t32) (h' := h_29) (by kernel_rfl) (by kernel_rfl) (by kernel_rfl) ?_
      replace hF := lett_some hF; obtain ⟨j36, e33, hF⟩ := hF
      have J34 : ∀ (t36 : Bool) (h_32 : AHeap), j36 t36 h_32 = some (rR, hR) → WL Try.prog w0 m0 (Func.ntmps Try.f4) (Code.ops (Code.p1 (Code.p1 (Code.p2 (Code.p2 (Code.p2 (Code.p2 (Code.p2 (codeOf Try.f4))))))))) 6 K28 [(7, r26), (8, r30), (36, .bool t36)] [] h_32 := by
        intro t36 h_32 hF
        rw [e33] at hF
        refine WL.nil (by kernel_rfl) ?_
        refine Go.weaken (l' := [(7, r26), (8, r30), (36, .bool t36)]) (Fr.sub_cons (by kernel_rfl) (Fr.sub_cons (by kernel_rfl) (Fr.sub_cons (by kernel_rfl) (Fr.sub_nil _)))) ?_
        refine n28 ?_
        cases t36 with
        | true =>
          replace hF := ifB_t hF
          refine W.cond_true (by kernel_rfl) (by kernel_rfl) ?_
          refine W.seqK (by kernel_rfl) (fun K35 n35 e35 r35 p35 => ?_)
          refine W.region (by kernel_rfl) ?_
          refine WL.val (d := (some 37)) (v := r26) (h' := h_32) (by kernel_rfl) (by kernel_rfl) (by kernel_rfl) ?_
          replace hF := outK_some hF; obtain ⟨v38, h_36, e37, hF⟩ := hF
          replace hF := obind_some hF; obtain ⟨t38, c38, hF⟩ := hF
          have c38 := avBool_some c38
          subst c38
          refine WL.val (d := (some 38)) (v := .bool t38) (h' := h_36) (by kernel_rfl) (by kernel_rfl) (Eq.trans (by kernel_rfl) e37) ?_
          refine WL.val (d := (some 39)) (v := .bool t38) (h' := h_36) (by kernel_rfl) (by kernel_rfl) (by kernel_rfl) ?_
          replace hF := lett_some hF; obtain ⟨j42, e40, hF⟩ := hF
          have J41 : ∀ (t42 : Bool) (h_39 : AHeap), j42 t42 h_39 = some (rR, hR) → WL Try.prog w0 m0 (Func.ntmps Try.f4) (Code.ops (Code.p1 (Code.p1 (Code.p2 (Code.p1 (Code.p2 (Code.p2 (Code.p2 (Code.p2 (Code.p2 (codeOf Try.f4))))))))))) 6 K35 [(42, .bool t42)] [] h_39 := by
            intro t42 h_39 hF
            rw [e40] at hF
            refine WL.val (d := (some 4)) (v := .bool t42) (h' := h_39) (by kernel_rfl) (by kernel_rfl) (by kernel_rfl) ?_
            refine WL.nil (by kernel_rfl) ?_
            refine Go.weaken (l' := [(4, .bool t42)]) (Fr.sub_cons (by kernel_rfl) (Fr.sub_nil _)) ?_
            refine n35 ?_
            refine W.ret (by kernel_rfl) ?_
            refine r27 ?_
            obtain ⟨hF, hF2⟩ := ret_inj hF; subst hF; subst hF2
            exact leave_of (rs := [.tmp 4]) (vs := [.bool t42]) (by kernel_rfl) (res_tmp (by kernel_rfl) res_nil) (by kernel_rfl)
          cases t38 with
          | true =>
            replace hF := ifB_t hF
            refine WL.val (d := (some 40)) (v := r30) (h' := h_36) (by kernel_rfl) (by kernel_rfl) (by kernel_rfl) ?_
            replace hF := outK_some hF; obtain ⟨v41, h_42, e43, hF⟩ := hF
            replace hF := obind_some hF; obtain ⟨t41, c44, hF⟩ := hF
            have c44 := avBool_some c44
            subst c44
            refine WL.val (d := (some 41)) (v := .bool t41) (h' := h_42) (by kernel_rfl) (by kernel_rfl) (Eq.trans (by kernel_rfl) e43) ?_
            refine WL.val (d := (some 42)) (v := .bool t41) (h' := h_42) (by kernel_rfl) (by kernel_rfl) (by kernel_rfl) ?_
            exact WL.weaken (Fr.sub_cons (by kernel_rfl) (Fr.sub_nil _)) (J41 _ _ hF)
          | false =>
            replace hF := ifB_f hF
            refine WL.not (d := (some 40)) (by kernel_rfl) (by kernel_rfl) ?_
            refine WL.not (d := (some 41)) (by kernel_rfl) (by kernel_rfl) ?_
            refine WL.val (d := (some 42)) (v := .bool false) (h' := h_36) (by kernel_rfl) (by kernel_rfl) (by kernel_rfl) ?_
            exact WL.weaken (Fr.sub_cons (by kernel_rfl) (Fr.sub_nil _)) (J41 _ _ hF)
        | false =>
          replace hF := ifB_f hF
          refine W.cond_false (by kernel_rfl) (by kernel_rfl) ?_
          refine W.skip (by kernel_rfl) ?_
          refine n27 ?_
          refine W.seqK (by kernel_rfl) (fun K45 n45 e45 r45 p45 => ?_)
          refine W.region (by kernel_rfl) ?_
          refine WL.val (d := (some 44)) (v := r26) (h' := h_32) (by kernel_rfl) (by kernel_rfl) (by kernel_rfl) ?_
          replace hF := callN_some hF; obtain ⟨r45, h_46, e47, hF⟩ := hF
          refine WL.call (hc.ok w0) (d := (some 45)) (by kernel_rfl) (by kernel_rfl) (by kernel_rfl) e47 ?_
          refine WL.val (d := (some 43)) (v := r45) (h' := h_46) (by kernel_rfl) (by kernel_rfl) (by kernel_rfl) ?_
          replace hF := obind_some hF; obtain ⟨v46, e48, hF⟩ := hF
          replace hF := obind_some hF; obtain ⟨t46, c49, hF⟩ := hF
          have c49 := avStr_some c49
          subst c49
          refine WL.val (d := (some 46)) (v := strA t46) (h' := h_46) (by kernel_rfl) (by kernel_rfl) (Eq.trans (by kernel_rfl) (extract_tup (h := h_46) e48)) ?_
          replace hF := obind_some hF; obtain ⟨v47, e50, hF⟩ := hF
          replace hF := obind_some hF; obtain ⟨t47, c51, hF⟩ := hF
          have c51 := avInt_some c51
          subst c51
          refine WL.val (d := (some 47)) (v := .int .i64 t47) (h' := h_46) (by kernel_rfl) (by kernel_rfl) (Eq.trans (by kernel_rfl) (extract_tup (h := h_46) e50)) ?_
          replace hF := obind_some hF; obtain ⟨v48, e52, hF⟩ := hF
          replace hF := obind_some hF; obtain ⟨t48, c53, hF⟩ := hF
          have c53 := avInt_some c53
          subst c53
          refine WL.val (d := (some 48)) (v := .int .i64 t48) (h' := h_46) (by kernel_rfl) (by kernel_rfl) (Eq.trans (by kernel_rfl) (extract_tup (h := h_46) e52)) ?_
          refine WL.val (d := (some 9)) (v := strA t46) (h' := h_46) (by kernel_rfl) (by kernel_rfl) (by kernel_rfl) ?_
          refine WL.val (d := (some 10)) (v := .int .i64 t47) (h' := h_46) (by kernel_rfl) (by kernel_rfl) (by kernel_rfl) ?_
          refine WL.val (d := (some 11)) (v := .int .i64 t48) (h' := h_46) (by kernel_rfl) (by kernel_rfl) (by kernel_rfl) ?_
          refine WL.nil (by kernel_rfl) ?_
          refine Go.weaken (l' := [(7, r26), (8, r30), (9, strA t46), (10, .int .i64 t47), (11, .int .i64 t48)]) (Fr.sub_cons (by kernel_rfl) (Fr.sub_cons (by kernel_rfl) (Fr.sub_cons (by kernel_rfl) (Fr.sub_cons (by kernel_rfl) (Fr.sub_cons (by kernel_rfl) (Fr.sub_nil _)))))) ?_
          refine n45 ?_
          refine W.seqK (by kernel_rfl) (fun K54 n54 e54 r54 p54 => ?_)
          refine W.region (by kernel_rfl) ?_
          refine WL.val (d := (some 50)) (v := r30) (h' := h_46) (by kernel_rfl) (by kernel_rfl) (by kernel_rfl) ?_
          replace hF := callN_some hF; obtain ⟨r51, h_55, e56, hF⟩ := hF
          refine WL.call (hc.ok w0) (d := (some 51)) (by kernel_rfl) (by kernel_rfl) (by kernel_rfl) e56 ?_
          refine WL.val (d := (some 49)) (v := r51) (h' := h_55) (by kernel_rfl) (by kernel_rfl) (by kernel_rfl) ?_
          replace hF := obind_some hF; obtain ⟨v52, e57, hF⟩ := hF
          replace hF := obind_some hF; obtain ⟨t52, c58, hF⟩ := hF
          have c58 := avStr_some c58
          subst c58
          refine WL.val (d := (some 52)) (v := strA t52) (h' := h_55) (by kernel_rfl) (by kernel_rfl) (Eq.trans (by kernel_rfl) (extract_tup (h := h_55) e57)) ?_
          replace hF := obind_some hF; obtain ⟨v53, e59, hF⟩ := hF
          replace hF := obind_some hF; obtain ⟨t53, c60, hF⟩ := hF
          have c60 := avInt_some c60
          subst c60
          refine WL.val (d := (some 53)) (v := .int .i64 t53) (h' := h_55) (by kernel_rfl) (by kernel_rfl) (Eq.trans (by kernel_rfl) (extract_tup (h := h_55) e59)) ?_
          replace hF := obind_some hF; obtain ⟨v54, e61, hF⟩ := hF
          replace hF := obind_some hF; obtain ⟨t54, c62, hF⟩ := hF
          have c62 := avInt_some c62
          subst c62
          refine WL.val (d := (some 54)) (v := .int .i64 t54) (h' := h_55) (by kernel_rfl) (by kernel_rfl) (Eq.trans (by kernel_rfl) (extract_tup (h := h_55) e61)) ?_
          refine WL.val (d := (some 12)) (v := strA t52) (h' := h_55) (by kernel_rfl) (by kernel_rfl) (by kernel_rfl) ?_
          refine WL.val (d := (some 13)) (v := .int .i64 t53) (h' := h_55) (by kernel_rfl) (by kernel_rfl) (by kernel_rfl) ?_
          refine WL.val (d := (some 14)) (v := .int .i64 t54) (h' := h_55) (by kernel_rfl) (by kernel_rfl) (by kernel_rfl) ?_
          refine WL.nil (by kernel_rfl) ?_
          refine Go.weaken (l' := [(7, r26), (8, r30), (9, strA t46), (10, .int .i64 t47), (11, .int .i64 t48), (12, strA t52), (13, .int .i64 t53), (14, .int .i64 t54)]) (Fr.sub_cons (by kernel_rfl) (Fr.sub_cons (by kernel_rfl) (Fr.sub_cons (by kernel_rfl) (Fr.sub_cons (by kernel_rfl) (Fr.sub_cons (by kernel_rfl) (Fr.sub_cons (by kernel_rfl) (Fr.sub_cons (by kernel_rfl) (Fr.sub_cons (by kernel_rfl) (Fr.sub_nil _))))))))) ?_
          refine n54 ?_
          refine W.seqK (by kernel_rfl) (fun K63 n63 e63 r63 p63 => ?_)
          refine W.region (by kernel_rfl) ?_
          refine WL.val (d := (some 55)) (v := strA t46) (h' := h_55) (by kernel_rfl) (by kernel_rfl) (by kernel_rfl) ?_
          refine WL.val (d := (some 56)) (v := strA t52) (h' := h_55) (by kernel_rfl) (by kernel_rfl) (by kernel_rfl) ?_
          replace hF := lett_some hF; obtain ⟨t57, e64, hF⟩ := hF
          refine WL.val (d := (some 57)) (v := .bool t57) (h' := h_55) (by kernel_rfl) (by kernel_rfl) (val_of AV.bool e64 (by kernel_rfl)) ?_
          refine WL.val (d := (some 58)) (v := .bool t57) (h' := h_55) (by kernel_rfl) (by kernel_rfl) (by kernel_rfl) ?_
          replace hF := lett_some hF; obtain ⟨j62, e66, hF⟩ := hF
          have J67 : ∀ (t62 : Bool) (h_65 : AHeap), j62 t62 h_65 = some (rR, hR) → WL Try.prog w0 m0 (Func.ntmps Try.f4) (Code.ops (Code.p1 (Code.p2 (Code.p2 (Code.p2 (Code.p2 (Code.p2 (Code.p2 (Code.p2 (Code.p2 (codeOf Try.f4))))))))))) 8 K63 [(7, r26), (8, r30), (11, .int .i64 t48), (14, .int .i64 t54), (62, .bool t62)] [] h_65 := by
            intro t62 h_65 hF
            rw [e66] at hF
            refine WL.val (d := (some 63)) (v := .bool t62) (h' := h_65) (by kernel_rfl) (by kernel_rfl) (by kernel_rfl) ?_
            replace hF := lett_some hF; obtain ⟨j66, e69, hF⟩ := hF
            have J70 : ∀ (t66 : Bool) (h_68 : AHeap), j66 t66 h_68 = some (rR, hR) → WL Try.prog w0 m0 (Func.ntmps Try.f4) (Code.ops (Code.p1 (Code.p2 (Code.p2 (Code.p2 (Code.p2 (Code.p2 (Code.p2 (Code.p2 (Code.p2 (codeOf Try.f4))))))))))) 12 K63 [(7, r26), (8, r30), (14, .int .i64 t54), (66, .bool t66)] [] h_68 := by
              intro t66 h_68 hF
              rw [e69] at hF
              refine WL.val (d := (some 67)) (v := .bool t66) (h' := h_68) (by kernel_rfl) (by kernel_rfl) (by kernel_rfl) ?_
              replace hF := lett_some hF; obtain ⟨j70, e72, hF⟩ := hF
              have J73 : ∀ (t70 : Bool) (h_71 : AHeap), j70 t70 h_71 = some (rR, hR) → WL Try.prog w0 m0 (Func.ntmps Try.f4) (Code.ops (Code.p1 (Code.p2 (Code.p2 (Code.p2 (Code.p2 (Code.p2 (Code.p2 (Code.p2 (Code.p2 (codeOf Try.f4))))))))))) 16 K63 [(7, r26), (8, r30), (70, .bool t70)] [] h_71 := by
                intro t70 h_71 hF
                rw [e72] at hF
                refine WL.val (d := (some 71)) (v := .bool t70) (h' := h_71) (by kernel_rfl) (by kernel_rfl) (by kernel_rfl) ?_
                replace hF := lett_some hF; obtain ⟨j77, e75, hF⟩ := hF
                have J76 : ∀ (t77 : Bool) (h_74 : AHeap), j77 t77 h_74 = some (rR, hR) → WL Try.prog w0 m0 (Func.ntmps Try.f4) (Code.ops (Code.p1 (Code.p2 (Code.p2 (Code.p2 (Code.p2 (Code.p2 (Code.p2 (Code.p2 (Code.p2 (codeOf Try.f4))))))))))) 23 K63 [(7, r26), (8, r30), (77, .bool t77)] [] h_74 := by
                  intro t77 h_74 hF
                  rw [e75] at hF
                  refine WL.val (d := (some 78)) (v := .bool t77) (h' := h_74) (by kernel_rfl) (by kernel_rfl) (by kernel_rfl) ?_
                  replace hF := lett_some hF; obtain ⟨j84, e78, hF⟩ := hF
                  have J79 : ∀ (t84 : Bool) (h_77 : AHeap), j84 t84 h_77 = some (rR, hR) → WL Try.prog w0 m0 (Func.ntmps Try.f4) (Code.ops (Code.p1 (Code.p2 (Code.p2 (Code.p2 (Code.p2 (Code.p2 (Code.p2 (Code.p2 (Code.p2 (codeOf Try.f4))))))))))) 30 K63 [(84, .bool t84)] [] h_77 := by
                    intro t84 h_77 hF
                    rw [e78] at hF
                    refine WL.val (d := (some 4)) (v := .bool t84) (h' := h_77) (by kernel_rfl) (by kernel_rfl) (by kernel_rfl) ?_
                    refine WL.nil (by kernel_rfl) ?_
                    refine Go.weaken (l' := [(4, .bool t84)]) (Fr.sub_cons (by kernel_rfl) (Fr.sub_nil _)) ?_
                    refine n63 ?_
                    refine W.ret (by kernel_rfl) ?_
                    obtain ⟨hF, hF2⟩ := ret_inj hF; subst hF; subst hF2
                    exact leave_of (rs := [.tmp 4]) (vs := [.bool t84]) (by kernel_rfl) (res_tmp (by kernel_rfl) res_nil) (by kernel_rfl)
                  cases t77 with
                  | true =>
                    replace hF := ifB_t hF
                    refine WL.val (d := (some 79)) (v := r26) (h' := h_74) (by kernel_rfl) (by kernel_rfl) (by kernel_rfl) ?_
                    replace hF := callN_some hF; obtain ⟨r80, h_80, e81, hF⟩ := hF
                    replace hF := obind_some hF; obtain ⟨t80, c82, hF⟩ := hF
                    have c82 := avInt_some c82
                    subst c82
                    refine WL.call (hc.ok w0) (d := (some 80)) (by kernel_rfl) (by kernel_rfl) (by kernel_rfl) e81 ?_
                    refine WL.val (d := (some 81)) (v := r30) (h' := h_80) (by kernel_rfl) (by kernel_rfl) (by kernel_rfl) ?_
                    replace hF := callN_some hF; obtain ⟨r82, h_83, e84, hF⟩ := hF
                    replace hF := obind_some hF; obtain ⟨t82, c85, hF⟩ := hF
                    have c85 := avInt_some c85
                    subst c85
                    refine WL.call (hc.ok w0) (d := (some 82)) (by kernel_rfl) (by kernel_rfl) (by kernel_rfl) e84 ?_
                    replace hF := lett_some hF; obtain ⟨t83, e86, hF⟩ := hF
                    refine WL.val (d := (some 83)) (v := .bool t83) (h' := h_83) (by kernel_rfl) (by kernel_rfl) (val_of AV.bool e86 (by kernel_rfl)) ?_
                    refine WL.val (d := (some 84)) (v := .bool t83) (h' := h_83) (by kernel_rfl) (by kernel_rfl) (by kernel_rfl) ?_
                    exact WL.weaken (Fr.sub_cons (by kernel_rfl) (Fr.sub_nil _)) (J79 _ _ hF)
                  | false =>
                    replace hF := ifB_f hF
                    refine WL.not (d := (some 79)) (by kernel_rfl) (by kernel_rfl) ?_
                    refine WL.not (d := (some 80)) (by kernel_rfl) (by kernel_rfl) ?_
                    refine WL.not (d := (some 81)) (by kernel_rfl) (by kernel_rfl) ?_
                    refine WL.not (d := (some 82)) (by kernel_rfl) (by kernel_rfl) ?_
                    refine WL.not (d := (some 83)) (by kernel_rfl) (by kernel_rfl) ?_
                    refine WL.val (d := (some 84)) (v := .bool false) (h' := h_74) (by kernel_rfl) (by kernel_rfl) (by kernel_rfl) ?_
                    exact WL.weaken (Fr.sub_cons (by kernel_rfl) (Fr.sub_nil _)) (J79 _ _ hF)
                cases t70 with
                | true =>
                  replace hF := ifB_t hF
                  refine WL.val (d := (some 72)) (v := r26) (h' := h_71) (by kernel_rfl) (by kernel_rfl) (by kernel_rfl) ?_
                  replace hF := callN_some hF; obtain ⟨r73, h_87, e88, hF⟩ := hF
                  replace hF := obind_some hF; obtain ⟨t73, c89, hF⟩ := hF
                  have c89 := avInt_some c89
                  subst c89
                  refine WL.call (hc.ok w0) (d := (some 73)) (by kernel_rfl) (by kernel_rfl) (by kernel_rfl) e88 ?_
                  refine WL.val (d := (some 74)) (v := r30) (h' := h_87) (by kernel_rfl) (by kernel_rfl) (by kernel_rfl) ?_
                  replace hF := callN_some hF; obtain ⟨r75, h_90, e91, hF⟩ := hF
                  replace hF := obind_some hF; obtain ⟨t75, c92, hF⟩ := hF
                  have c92 := avInt_some c92
                  subst c92
                  refine WL.call (hc.ok w0) (d := (some 75)) (by kernel_rfl) (by kernel_rfl) (by kernel_rfl) e91 ?_
                  replace hF := lett_some hF; obtain ⟨t76, e93, hF⟩ := hF
                  refine WL.val (d := (some 76)) (v := .bool t76) (h' := h_90) (by kernel_rfl) (by kernel_rfl) (val_of AV.bool e93 (by kernel_rfl)) ?_
                  refine WL.val (d := (some 77)) (v := .bool t76) (h' := h_90) (by kernel_rfl) (by kernel_rfl) (by kernel_rfl) ?_
                  exact WL.weaken (Fr.sub_cons (by kernel_rfl) (Fr.sub_cons (by kernel_rfl) (Fr.sub_cons (by kernel_rfl) (Fr.sub_nil _)))) (J76 _ _ hF)
                | false =>
                  replace hF := ifB_f hF
                  refine WL.not (d := (some 72)) (by kernel_rfl) (by kernel_rfl) ?_
                  refine WL.not (d := (some 73)) (by kernel_rfl) (by kernel_rfl) ?_
                  refine WL.not (d := (some 74)) (by kernel_rfl) (by kernel_rfl) ?_
                  refine WL.not (d := (some 75)) (by kernel_rfl) (by kernel_rfl) ?_
                  refine WL.not (d := (some 76)) (by kernel_rfl) (by kernel_rfl) ?_
                  refine WL.val (d := (some 77)) (v := .bool false) (h' := h_71) (by kernel_rfl) (by kernel_rfl) (by kernel_rfl) ?_
                  exact WL.weaken (Fr.sub_cons (by kernel_rfl) (Fr.sub_cons (by kernel_rfl) (Fr.sub_cons (by kernel_rfl) (Fr.sub_nil _)))) (J76 _ _ hF)
              cases t66 with
              | true =>
                replace hF := ifB_t hF
                refine WL.val (d := (some 68)) (v := .int .i64 t54) (h' := h_68) (by kernel_rfl) (by kernel_rfl) (by kernel_rfl) ?_
                replace hF := lett_some hF; obtain ⟨t69, e94, hF⟩ := hF
                refine WL.val (d := (some 69)) (v := .bool t69) (h' := h_68) (by kernel_rfl) (by kernel_rfl) (val_of AV.bool e94 (by kernel_rfl)) ?_
                refine WL.val (d := (some 70)) (v := .bool t69) (h' := h_68) (by kernel_rfl) (by kernel_rfl) (by kernel_rfl) ?_
                exact WL.weaken (Fr.sub_cons (by kernel_rfl) (Fr.sub_cons (by kernel_rfl) (Fr.sub_cons (by kernel_rfl) (Fr.sub_nil _)))) (J73 _ _ hF)
              | false =>
                replace hF := ifB_f hF
                refine WL.not (d := (some 68)) (by kernel_rfl) (by kernel_rfl) ?_
                refine WL.not (d := (some 69)) (by kernel_rfl) (by kernel_rfl) ?_
                refine WL.val (d := (some 70)) (v := .bool false) (h' := h_68) (by kernel_rfl) (by kernel_rfl) (by kernel_rfl) ?_
                exact WL.weaken (Fr.sub_cons (by kernel_rfl) (Fr.sub_cons (by kernel_rfl) (Fr.sub_cons (by kernel_rfl) (Fr.sub_nil _)))) (J73 _ _ hF)
            cases t62 with
            | true =>
              replace hF := ifB_t hF
              refine WL.val (d := (some 64)) (v := .int .i64 t48) (h' := h_65) (by kernel_rfl) (by kernel_rfl) (by kernel_rfl) ?_
              replace hF := lett_some hF; obtain ⟨t65, e95, hF⟩ := hF
              refine WL.val (d := (some 65)) (v := .bool t65) (h' := h_65) (by kernel_rfl) (by kernel_rfl) (val_of AV.bool e95 (by kernel_rfl)) ?_
              refine WL.val (d := (some 66)) (v := .bool t65) (h' := h_65) (by kernel_rfl) (by kernel_rfl) (by kernel_rfl) ?_
              exact WL.weaken (Fr.sub_cons (by kernel_rfl) (Fr.sub_cons (by kernel_rfl) (Fr.sub_cons (by kernel_rfl) (Fr.sub_cons (by kernel_rfl) (Fr.sub_nil _))))) (J70 _ _ hF)
            | false =>
              replace hF := ifB_f hF
              refine WL.not (d := (some 64)) (by kernel_rfl) (by kernel_rfl) ?_
              refine WL.not (d := (some 65)) (by kernel_rfl) (by kernel_rfl) ?_
              refine WL.val (d := (some 66)) (v := .bool false) (h' := h_65) (by kernel_rfl) (by kernel_rfl) (by kernel_rfl) ?_
              exact WL.weaken (Fr.sub_cons (by kernel_rfl) (Fr.sub_cons (by kernel_rfl) (Fr.sub_cons (by kernel_rfl) (Fr.sub_cons (by kernel_rfl) (Fr.sub_nil _))))) (J70 _ _ hF)
          cases t57 with
          | true =>
            replace hF := ifB_t hF
            refine WL.val (d := (some 59)) (v := .int .i64 t47) (h' := h_55) (by kernel_rfl) (by kernel_rfl) (by kernel_rfl) ?_
            refine WL.val (d := (some 60)) (v := .int .i64 t53) (h' := h_55) (by kernel_rfl) (by kernel_rfl) (by kernel_rfl) ?_
            replace hF := lett_some hF; obtain ⟨t61, e96, hF⟩ := hF
            refine WL.val (d := (some 61)) (v := .bool t61) (h' := h_55) (by kernel_rfl) (by kernel_rfl) (val_of AV.bool e96 (by kernel_rfl)) ?_
            refine WL.val (d := (some 62)) (v := .bool t61) (h' := h_55) (by kernel_rfl) (by kernel_rfl) (by kernel_rfl) ?_
            exact WL.weaken (Fr.sub_cons (by kernel_rfl) (Fr.sub_cons (by kernel_rfl) (Fr.sub_cons (by kernel_rfl) (Fr.sub_cons (by kernel_rfl) (Fr.sub_cons (by kernel_rfl) (Fr.sub_nil _)))))) (J67 _ _ hF)
          | false =>
            replace hF := ifB_f hF
            refine WL.not (d := (some 59)) (by kernel_rfl) (by kernel_rfl) ?_
            refine WL.not (d := (some 60)) (by kernel_rfl) (by kernel_rfl) ?_
            refine WL.not (d := (some 61)) (by kernel_rfl) (by kernel_rfl) ?_
            refine WL.val (d := (some 62)) (v := .bool false) (h' := h_55) (by kernel_rfl) (by kernel_rfl) (by kernel_rfl) ?_
            exact WL.weaken (Fr.sub_cons (by kernel_rfl) (Fr.sub_cons (by kernel_rfl) (Fr.sub_cons (by kernel_rfl) (Fr.sub_cons (by kernel_rfl) (Fr.sub_cons (by kernel_rfl) (Fr.sub_nil _)))))) (J67 _ _ hF)
      cases t32 with
      | true =>
        replace hF := ifB_t hF
        refine WL.not (d := (some 34)) (by kernel_rfl) (by kernel_rfl) ?_
        refine WL.not (d := (some 35)) (by kernel_rfl) (by kernel_rfl) ?_
        refine WL.val (d := (some 36)) (v := .bool true) (h' := h_29) (by kernel_rfl) (by kernel_rfl) (by kernel_rfl) ?_
        exact WL.weaken (Fr.sub_cons (by kernel_rfl) (Fr.sub_cons (by kernel_rfl) (Fr.sub_cons (by kernel_rfl) (Fr.sub_nil _)))) (J34 _ _ hF)
      | false =>
        replace hF := ifB_f hF
        refine WL.val (d := (some 34)) (v := r30) (h' := h_29) (by kernel_rfl) (by kernel_rfl) (by kernel_rfl) ?_
        replace hF := outK_some hF; obtain ⟨v35, h_97, e98, hF⟩ := hF
        replace hF := obind_some hF; obtain ⟨t35, c99, hF⟩ := hF
        have c99 := avBool_some c99
        subst c99
        refine WL.val (d := (some 35)) (v := .bool t35) (h' := h_97) (by kernel_rfl) (by kernel_rfl) (Eq.trans (by kernel_rfl) e98) ?_
        refine WL.val (d := (some 36)) (v := .bool t35) (h' := h_97) (by kernel_rfl) (by kernel_rfl) (by kernel_rfl) ?_
        exact WL.weaken (Fr.sub_cons (by kernel_rfl) (Fr.sub_cons (by kernel_rfl) (Fr.sub_cons (by kernel_rfl) (Fr.sub_nil _)))) (J34 _ _ hF)
noncomputable def law21_RingPieces_fn (call : CallF) (n : Nat) : FnT := fun args h => match args with
  | [x0, x1] => obind (avInt .i64 x0) fun t0 => law21_RingPieces call n t0 x1 h
  | _ => none
set_option maxRecDepth 100000 in
theorem law21_RingPieces_fn_eq (call : CallF) (n : Nat) (t0 : Int) (t1 : AV) (h : AHeap) : law21_RingPieces_fn call n [.int .i64 t0, t1] h = law21_RingPieces call n t0 t1 h :=
  (Eq.trans (obind_eq (fun t0 => law21_RingPieces call n t0 t1 h) (avInt_int .i64 t0)) rfl)
theorem law21_RingPieces_holds {call : CallF} (hc : SaysAll Try.prog call) (n : Nat) : Holds Try.prog 4 (law21_RingPieces_fn call n) := by
  intro args h r h2 e
  unfold law21_RingPieces_fn at e
  split at e
  · replace e := obind_some e; obtain ⟨t0, c0, e⟩ := e; have c0 := avInt_some c0; subst c0
    exact law21_RingPieces_ok hc e
  · cases e

noncomputable def law21_RingReads_L0b (call : CallF) (t0 : Int) (t1 : AV) (t2 : AV) (t22 : Bytes) (r27 : AV) (k37 : AHeap → R) (self : Int → Int → Int → AHeap → R) (t10 : Int) (t11 : Int) (t12 : Int) (h_41 : AHeap) : R :=
  obind (lenL t1) fun t35 =>
  lett (decide (t12 < t35)) fun (t36 : Bool) =>
  ifB t36
  (
    lett (fun (t10_49 : Int) (t11_50 : Int) (h_51 : AHeap) =>
      lett (IntKind.i64.wrap (t12 + 1)) fun (t38 : Int) =>
      self t10_49 t11_50 t38 h_51) fun k48 =>
    obind (idxP 1 t1 t12) fun t42 =>
    obind (ldCell h_41 t42) fun v43 =>
    obind (avStr v43) fun t43 =>
    callN (call 18 [r27, strA t43] h_41) fun _ h_57 =>
    obind (idxP 1 t1 t12) fun t48 =>
    obind (ldCell h_57 t48) fun v49 =>
    obind (avStr v49) fun t49 =>
    lett (IntKind.i64.wrap (t11 + (lenS t49))) fun (t51 : Int) =>
    obind (lenL t2) fun t53 =>
    lett (decide (t53 > 0)) fun (t54 : Bool) =>
    lett (fun (t13 : Int) (h_70 : AHeap) =>
      callN (call 13 [r27, .int .i64 t10, .int .i64 t13] h_70) fun r66 h_72 =>
      obind (extT 0 r66) fun v67 =>
      obind (avStr v67) fun t67 =>
      obind (extT 1 r66) fun v68 =>
      obind (avInt .i64 v68) fun t68 =>
      obind (extT 2 r66) fun v69 =>
      obind (avInt .i64 v69) fun t69 =>
      lett (decide (t13 < 0)) fun (t71 : Bool) =>
      ifB t71
      (
        lett ((t69 : Int) != 5) fun (t73 : Bool) =>
        lett (fun (t77 : Bool) (h_86 : AHeap) =>
          lett (fun (t81 : Bool) (h_89 : AHeap) =>
            ifB t81
            (
              some (.ret (.bool false), h_89))
            (
              k48 t10 t51 h_89)) fun j81 =>
          ifB t77
          (
            j81 true h_86)
          (
            lett ((t68 : Int) != 0) fun (t80 : Bool) =>
            j81 t80 h_86)) fun j77 =>
        ifB t73
        (
          j77 true h_72)
        (
          lett (!eqS t67 ([] : Bytes)) fun (t76 : Bool) =>
          j77 t76 h_72))
      (
        lett ((t69 : Int) != 0) fun (t83 : Bool) =>
        lett (fun (t88 : Bool) (h_98 : AHeap) =>
          lett (fun (t93 : Bool) (h_101 : AHeap) =>
            lett (fun (t101 : Bool) (h_104 : AHeap) =>
              lett (fun (t112 : Bool) (h_107 : AHeap) =>
                lett (fun (t118 : Bool) (h_110 : AHeap) =>
                  ifB t118
                  (
                    some (.ret (.bool false), h_110))
                  (
                    lett (decide (t68 > t10)) fun (t121 : Bool) =>
                    lett (fun (t128 : Bool) (h_117 : AHeap) =>
                      lett (fun (t140 : Bool) (h_120 : AHeap) =>
                        ifB t140
                        (
                          some (.ret (.bool false), h_120))
                        (
                          lett (decide ((lenS t67) < t13)) fun (t144 : Bool) =>
                          lett (fun (t152 : Bool) (h_127 : AHeap) =>
                            ifB t152
                            (
                              some (.ret (.bool false), h_127))
                            (
                              lett (IntKind.i64.wrap (t68 + (lenS t67))) fun (t156 : Int) =>
                              k48 t156 t51 h_127)) fun j152 =>
                          ifB t144
                          (
                            lett (IntKind.i64.wrap (t68 + (lenS t67))) fun (t149 : Int) =>
                            lett ((t149 : Int) != t51) fun (t151 : Bool) =>
                            j152 t151 h_120)
                          (
                            j152 false h_120))) fun j140 =>
                      ifB t128
                      (
                        j140 true h_117)
                      (
                        lett ((t68 : Int) == t10) fun (t132 : Bool) =>
                        lett (fun (t139 : Bool) (h_135 : AHeap) =>
                          j140 t139 h_135) fun j139 =>
                        ifB t132
                        (
                          lett (IntKind.i64.wrap (t51 - t10)) fun (t136 : Int) =>
                          lett (decide (t136 > t0)) fun (t138 : Bool) =>
                          j139 t138 h_117)
                        (
                          j139 false h_117))) fun j128 =>
                    ifB t121
                    (
                      lett (IntKind.i64.wrap (t51 - t0)) fun (t126 : Int) =>
                      lett ((t68 : Int) != t126) fun (t127 : Bool) =>
                      j128 t127 h_110)
                    (
                      j128 false h_110))) fun j118 =>
                ifB t112
                (
                  j118 true h_107)
                (
                  lett (decide ((lenS t67) > t13)) fun (t117 : Bool) =>
                  j118 t117 h_107)) fun j112 =>
              ifB t101
              (
                j112 true h_104)
              (
                lett (IntKind.i64.wrap (t68 + (lenS t67))) fun (t108 : Int) =>
                obind (sliceS t22 t68 t108) fun t109 =>
                lett (!eqS t109 t67) fun (t111 : Bool) =>
                j112 t111 h_104)) fun j101 =>
            ifB t93
            (
              j101 true h_101)
            (
              lett (IntKind.i64.wrap (t68 + (lenS t67))) fun (t98 : Int) =>
              lett (decide (t98 > t51)) fun (t100 : Bool) =>
              j101 t100 h_101)) fun j93 =>
          ifB t88
          (
            j93 true h_98)
          (
            lett (decide (t68 > t51)) fun (t92 : Bool) =>
            j93 t92 h_98)) fun j88 =>
        ifB t83
        (
          j88 true h_72)
        (
          lett (decide (t68 < t10)) fun (t87 : Bool) =>
          j88 t87 h_72))) fun k69 =>
    ifB t54
    (
      obind (lenL t2) fun t58 =>
      obind (remI .i64 t12 t58) fun t59 =>
      obind (idxP 1 t2 t59) fun t60 =>
      obind (ldCell h_57 t60) fun v61 =>
      obind (avInt .i64 v61) fun t61 =>
      k69 t61 h_57)
    (
      k69 1048576 h_57))
  (
    k37 h_41)
noncomputable def law21_RingReads_L0 (call : CallF) (t0 : Int) (t1 : AV) (t2 : AV) (t22 : Bytes) (r27 : AV) (k37 : AHeap → R) : Nat → Int → Int → Int → AHeap → R := iterR (fun _ _ _ _ => none) (law21_RingReads_L0b call t0 t1 t2 t22 r27 k37)
theorem law21_RingReads_L0_s (call : CallF) (t0 : Int) (t1 : AV) (t2 : AV) (t22 : Bytes) (r27 : AV) (k37 : AHeap → R) (m : Nat) : law21_RingReads_L0 call t0 t1 t2 t22 r27 k37 (m + 1) = law21_RingReads_L0b call t0 t1 t2 t22 r27 k37 (law21_RingReads_L0 call t0 t1 t2 t22 r27 k37 m) := rfl
noncomputable def law21_RingReads (call : CallF) (n : Nat) (t0 : Int) (t1 : AV) (t2 : AV) (h : AHeap) : R :=
  callN (call 8 [] h) fun r17 h_4 =>
  obind (avBool r17) fun t17 =>
  lett (!t17) fun (t18 : Bool) =>
  ifB t18
  (
    some (.ret (.bool false), h_4))
  (
    callN (call 9 [t1] h_4) fun r21 h_10 =>
    obind (extT 0 r21) fun v22 =>
    obind (avStr v22) fun t22 =>
    obind (extT 1 r21) fun v23 =>
    obind (avBool v23) fun t23 =>
    lett (!t23) fun (t25 : Bool) =>
    ifB t25
    (
      some (.ret (.bool true), h_10))
    (
      callN (call 11 [.int .i64 t0, AV.nsl] h_10) fun r27 h_21 =>
      outK (opBin Try.prog h_21 .eql 26 true (some r27) (some AV.nilp)) fun v29 h_25 =>
      obind (avBool v29) fun t29 =>
      ifB t29
      (
        callN (call 12 [.int .i64 t0] h_25) fun r31 h_29 =>
        obind (avBool r31) fun t31 =>
        lett (!t31) fun (t32 : Bool) =>
        some (.ret (.bool t32), h_29))
      (
        lett (fun  (h_38 : AHeap) =>
          some (.ret (.bool true), h_38)) fun k37 =>
        law21_RingReads_L0 call t0 t1 t2 t22 r27 k37 n 0 0 0 h_25)))
set_option maxHeartbeats 4000000 in
set_option maxRecDepth 20000 in
theorem law21_RingReads_ok {call : CallF} (hc : SaysAll Try.prog call) {n : Nat} {t0 : Int} {t1 : AV} {t2 : AV} {h : AHeap} {rR : ARes} {hR : AHeap} (hF : law21_RingReads call n t0 t1 t2 h = some (rR, hR)) : Says Try.prog 5 [.int .i64 t0, t1, t2] h rR hR := by
  unfold law21_RingReads at hF
  refine says_of (fn := Try.f5) Try.func5 (c := codeOf Try.f5) (by kernel_rfl) (by kernel_rfl) (fun w0 m0 => ?_)
  refine W.weaken (l' := [(0, .int .i64 t0), (1, t1), (2, t2)]) (Fr.sub_cons (by kernel_rfl) (Fr.sub_cons (by kernel_rfl) (Fr.sub_cons (by kernel_rfl) (Fr.sub_nil _)))) ?_
  refine W.seqK (by kernel_rfl) (fun K1 n1 e1 r1 p1 => ?_)
  refine W.region (by kernel_rfl) ?_
  refine WL.val (d := (some 6)) (v := .bool false) (h' := h) (by kernel_rfl) (by kernel_rfl) (by kernel_rfl) ?_
  refine WL.nil (by kernel_rfl) ?_
  refine Go.weaken (l' := [(0, .int .i64 t0), (1, t1), (2, t2)]) (Fr.sub_cons (by kernel_rfl) (Fr.sub_cons (by kernel_rfl) (Fr.sub_cons (by kernel_rfl) (Fr.sub_nil _)))) ?_
  refine n1 ?_
  refine W.seqK (by kernel_rfl) (fun K2 n2 e2 r2 p2 => ?_)
  refine W.seqK (by kernel_rfl) (fun K3 n3 e3 r3 p3 => ?_)
  refine W.region (by kernel_rfl) ?_
  replace hF := callN_some hF; obtain ⟨r17, h_4, e5, hF⟩ := hF
  replace hF := obind_some hF; obtain ⟨t17, c6, hF⟩ := hF
  have c6 := avBool_some c6
  subst c6
  refine WL.call (hc.ok w0) (d := (some 17)) (by kernel_rfl) (by kernel_rfl) (by kernel_rfl) e5 ?_
  replace hF := lett_some hF; obtain ⟨t18, e7, hF⟩ := hF
  refine WL.val (d := (some 18)) (v := .bool t18) (h' := h_4) (by kernel_rfl) (by kernel_rfl) (val_of AV.bool e7 (by kernel_rfl)) ?_
  refine WL.nil (by kernel_rfl) ?_
  refine Go.weaken (l' := [(0, .int .i64 t0), (1, t1), (2, t2), (18, .bool t18)]) (Fr.sub_cons (by kernel_rfl) (Fr.sub_cons (by kernel_rfl) (Fr.sub_cons (by kernel_rfl) (Fr.sub_cons (by kernel_rfl) (Fr.sub_nil _))))) ?_
  refine n3 ?_
  cases t18 with
  | true =>
    replace hF := ifB_t hF
    refine W.cond_true (by kernel_rfl) (by kernel_rfl) ?_
    refine W.seqK (by kernel_rfl) (fun K8 n8 e8 r8 p8 => ?_)
    refine W.region (by kernel_rfl) ?_
    refine WL.val (d := (some 6)) (v := .bool false) (h' := h_4) (by kernel_rfl) (by kernel_rfl) (by kernel_rfl) ?_
    refine WL.nil (by kernel_rfl) ?_
    refine Go.weaken (l' := [(6, .bool false)]) (Fr.sub_cons (by kernel_rfl) (Fr.sub_nil _)) ?_
    refine n8 ?_
    refine W.ret (by kernel_rfl) ?_
    refine r2 ?_
    obtain ⟨hF, hF2⟩ := ret_inj hF; subst hF; subst hF2
    exact leave_of (rs := [.tmp 6]) (vs := [.bool false]) (by kernel_rfl) (res_tmp (by kernel_rfl) res_nil) (by kernel_rfl)
  | false =>
    replace hF := ifB_f hF
    refine W.cond_false (by kernel_rfl) (by kernel_rfl) ?_
    refine W.skip (by kernel_rfl) ?_
    refine n2 ?_
    refine W.seqK (by kernel_rfl) (fun K9 n9 e9 r9 p9 => ?_)
    refine W.region (by kernel_rfl) ?_
    refine WL.val (d := (some 20)) (v := t1) (h' := h_4) (by kernel_rfl) (by kernel_rfl) (by kernel_rfl) ?_
    replace hF := callN_some hF; obtain ⟨r21, h_10, e11, hF⟩ := hF
    refine WL.call (hc.ok w0) (d := (some 21)) (by kernel_rfl) (by kernel_rfl) (by kernel_rfl) e11 ?_
    refine WL.val (d := (some 19)) (v := r21) (h' := h_10) (by kernel_rfl) (by kernel_rfl) (by kernel_rfl) ?_
    replace hF := obind_some hF; obtain ⟨v22, e12, hF⟩ := hF
    replace hF := obind_some hF; obtain ⟨t22, c13, hF⟩ := hF
    have c13 := avStr_some c13
    subst c13
    refine WL.val (d := (some 22)) (v := strA t22) (h' := h_10) (by kernel_rfl) (by kernel_rfl) (Eq.trans (by kernel_rfl) (extract_tup (h := h_10) e12)) ?_
    replace hF := obind_some hF; obtain ⟨v23, e14, hF⟩ := hF
    replace hF := obind_some hF; obtain ⟨t23, c15, hF⟩ := hF
    have c15 := avBool_some c15
    subst c15
    refine WL.val (d := (some 23)) (v := .bool t23) (h' := h_10) (by kernel_rfl) (by kernel_rfl) (Eq.trans (by kernel_rfl) (extract_tup (h := h_10) e14)) ?_
    refine WL.val (d := (some 7)) (v := strA t22) (h' := h_10) (by kernel_rfl) (by kernel_rfl) (by kernel_rfl) ?_
    refine WL.val (d := (some 8)) (v := .bool t23) (h' := h_10) (by kernel_rfl) (by kernel_rfl) (by kernel_rfl) ?_
    refine WL.nil (by kernel_rfl) ?_
    refine Go.weaken (l' := [(0, .int .i64 t0), (1, t1), (2, t2), (7, strA t22), (8, .bool t23)]) (Fr.sub_cons (by kernel_rfl) (Fr.sub_cons (by kernel_rfl) (Fr.sub_cons (by kernel_rfl) (Fr.sub_cons (by kernel_rfl) (Fr.sub_cons (by kernel_rfl) (Fr.sub_nil _)))))) ?_
    refine n9 ?_
    refine W.seqK (by kernel_rfl) (fun K16 n16 e16 r16 p16 => ?_)
    refine W.seqK (by kernel_rfl) (fun K17 n17 e17 r17 p17 => ?_)
    refine W.region (by kernel_rfl) ?_
    refine WL.val (d := (some 24)) (v := .bool t23) (h' := h_10) (by kernel_rfl) (by kernel_rfl) (by kernel_rfl) ?_
    replace hF := lett_some hF; obtain ⟨t25, e18, hF⟩ := hF
    refine WL.val (d := (some 25)) (v := .bool t25) (h' := h_10) (by kernel_rfl) (by kernel_rfl) (val_of AV.bool e18 (by kernel_rfl)) ?_
    refine WL.nil (by kernel_rfl) ?_
    refine Go.weaken (l' := [(0, .int .i64 t0), (1, t1), (2, t2), (7, strA t22), (25, .bool t25)]) (Fr.sub_cons (by kernel_rfl) (Fr.sub_cons (by kernel_rfl) (Fr.sub_cons (by kernel_rfl) (Fr.sub_cons (by kernel_rfl) (Fr.sub_cons (by kernel_rfl) (Fr.sub_nil _)))))) ?_
    refine n17 ?_
    cases t25 with
    | true =>
      replace hF := ifB_t hF
      refine W.cond_true (by kernel_rfl) (by kernel_rfl) ?_
      refine W.seqK (by kernel_rfl) (fun K19 n19 e19 r19 p19 => ?_)
      refine W.region (by kernel_rfl) ?_
      refine WL.val (d := (some 6)) (v := .bool true) (h' := h_10) (by kernel_rfl) (by kernel_rfl) (by kernel_rfl) ?_
      refine WL.nil (by kernel_rfl) ?_
      refine Go.weaken (l' := [(6, .bool true)]) (Fr.sub_cons (by kernel_rfl) (Fr.sub_nil _)) ?_
      refine n19 ?_
      refine W.ret (by kernel_rfl) ?_
      refine r16 ?_
      obtain ⟨hF, hF2⟩ := ret_inj hF; subst hF; subst hF2
      exact leave_of (rs := [.tmp 6]) (vs := [.bool true]) (by kernel_rfl) (res_tmp (by kernel_rfl) res_nil) (by kernel_rfl)
    | false =>
      replace hF := ifB_f hF
      refine W.cond_false (by kernel_rfl) (by kernel_rfl) ?_
      refine W.skip (by kernel_rfl) ?_
      refine n16 ?_
      refine W.seqK (by kernel_rfl) (fun K20 n20 e20 r20 p20 => ?_)
      refine W.region (by kernel_rfl) ?_
      refine WL.val (d := (some 26)) (v := .int .i64 t0) (h' := h_10) (by kernel_rfl) (by kernel_rfl) (by kernel_rfl) ?_
      replace hF := callN_some hF; obtain ⟨r27, h_21, e22, hF⟩ := hF
      refine WL.call (hc.ok w0) (d := (some 27)) (by kernel_rfl) (by kernel_rfl) (by kernel_rfl) e22 ?_
      refine WL.val (d := (some 9)) (v := r27) (h' := h_21) (by kernel_rfl) (by kernel_rfl) (by kernel_rfl) ?_
      refine WL.nil (by kernel_rfl) ?_
      refine Go.weaken (l' := [(0, .int .i64 t0), (1, t1), (2, t2), (7, strA t22), (9, r27)]) (Fr.sub_cons (by kernel_rfl) (Fr.sub_cons (by kernel_rfl) (Fr.sub_cons (by kernel_rfl) (Fr.sub_cons (by kernel_rfl) (Fr.sub_cons (by kernel_rfl) (Fr.sub_nil _)))))) ?_
      refine n20 ?_
      refine W.seqK (by kernel_rfl) (fun K23 n23 e23 r23 p23 => ?_)
      refine W.seqK (by kernel_rfl) (fun K24 n24 e24 r24 p24 => ?_)
      refine W.region (by kernel_rfl) ?_
      refine WL.val (d := (some 28)) (v := r27) (h' := h_21) (by kernel_rfl) (by kernel_rfl) (by kernel_rfl) ?_
      replace hF := outK_some hF; obtain ⟨v29, h_25, e26, hF⟩ := hF
      replace hF := obind_some hF; obtain ⟨t29, c27, hF⟩ := hF
      have c27 := avBool_some c27
      subst c27
      refine WL.val (d := (some 29)) (v := .bool t29) (h' := h_25) (by kernel_rfl) (by kernel_rfl) (Eq.trans (by kernel_rfl) e26) ?_
      refine WL.nil (by kernel_rfl) ?_
      refine Go.weaken (l' := [(0, .int .i64 t0), (1, t1), (2, t2), (7, strA t22), (9, r27), (29, .bool t29)]) (Fr.sub_cons (by kernel_rfl) (Fr.sub_cons (by kernel_rfl) (Fr.sub_cons (by kernel_rfl) (Fr.sub_cons (by kernel_rfl) (Fr.sub_cons (by kernel_rfl) (Fr.sub_cons (by kernel_rfl) (Fr.sub_nil _))))))) ?_
      refine n24 ?_
      cases t29 with
      | true =>
        replace hF := ifB_t hF
        refine W.cond_true (by kernel_rfl) (by kernel_rfl) ?_
        refine W.seqK (by kernel_rfl) (fun K28 n28 e28 r28 p28 => ?_)
        refine W.region (by kernel_rfl) ?_
        refine WL.val (d := (some 30)) (v := .int .i64 t0) (h' := h_25) (by kernel_rfl) (by kernel_rfl) (by kernel_rfl) ?_
        replace hF := callN_some hF; obtain ⟨r31, h_29, e30, hF⟩ := hF
        replace hF := obind_some hF; obtain ⟨t31, c31, hF⟩ := hF
        have c31 := avBool_some c31
        subst c31
        refine WL.call (hc.ok w0) (d := (some 31)) (by kernel_rfl) (by kernel_rfl) (by kernel_rfl) e30 ?_
        replace hF := lett_some hF; obtain ⟨t32, e32, hF⟩ := hF
        refine WL.val (d := (some 32)) (v := .bool t32) (h' := h_29) (by kernel_rfl) (by kernel_rfl) (val_of AV.bool e32 (by kernel_rfl)) ?_
        refine WL.val (d := (some 6)) (v := .bool t32) (h' := h_29) (by kernel_rfl) (by kernel_rfl) (by kernel_rfl) ?_
        refine WL.nil (by kernel_rfl) ?_
        refine Go.weaken (l' := [(6, .bool t32)]) (Fr.sub_cons (by kernel_rfl) (Fr.sub_nil _)) ?_
        refine n28 ?_
        refine W.ret (by kernel_rfl) ?_
        refine r23 ?_
        obtain ⟨hF, hF2⟩ := ret_inj hF; subst hF; subst hF2
        exact leave_of (rs := [.tmp 6]) (vs := [.bool t32]) (by kernel_rfl) (res_tmp (by kernel_rfl) res_nil) (by kernel_rfl)
      | false =>
        replace hF := ifB_f hF
        refine W.cond_false (by kernel_rfl) (by kernel_rfl) ?_
        refine W.skip (by kernel_rfl) ?_
        refine n23 ?_
        refine W.seqK (by kernel_rfl) (fun K33 n33 e33 r33 p33 => ?_)
        refine W.region (by kernel_rfl) ?_
        refine WL.val (d := (some 10)) (v := .int .i64 0) (h' := h_25) (by kernel_rfl) (by kernel_rfl) (by kernel_rfl) ?_
        refine WL.val (d := (some 11)) (v := .int .i64 0) (h' := h_25) (by kernel_rfl) (by kernel_rfl) (by kernel_rfl) ?_
        refine WL.nil (by kernel_rfl) ?_
        refine Go.weaken (l' := [(0, .int .i64 t0), (1, t1), (2, t2), (7, strA t22), (9, r27), (10, .int .i64 0), (11, .int .i64 0)]) (Fr.sub_cons (by kernel_rfl) (Fr.sub_cons (by kernel_rfl) (Fr.sub_cons (by kernel_rfl) (Fr.sub_cons (by kernel_rfl) (Fr.sub_cons (by kernel_rfl) (Fr.sub_cons (by kernel_rfl) (Fr.sub_cons (by kernel_rfl) (Fr.sub_nil _)))))))) ?_
        refine n33 ?_
        refine W.seqK (by kernel_rfl) (fun K34 n34 e34 r34 p34 => ?_)
        refine W.seqK (by kernel_rfl) (fun K35 n35 e35 r35 p35 => ?_)
        refine W.region (by kernel_rfl) ?_
        refine WL.val (d := (some 12)) (v := .int .i64 0) (h' := h_25) (by kernel_rfl) (by kernel_rfl) (by kernel_rfl) ?_
        refine WL.nil (by kernel_rfl) ?_
        refine Go.weaken (l' := [(0, .int .i64 t0), (1, t1), (2, t2), (7, strA t22), (9, r27), (10, .int .i64 0), (11, .int .i64 0), (12, .int .i64 0)]) (Fr.sub_cons (by kernel_rfl) (Fr.sub_cons (by kernel_rfl) (Fr.sub_cons (by kernel_rfl) (Fr.sub_cons (by kernel_rfl) (Fr.sub_cons (by kernel_rfl) (Fr.sub_cons (by kernel_rfl) (Fr.sub_cons (by kernel_rfl) (Fr.sub_cons (by kernel_rfl) (Fr.sub_nil _))))))))) ?_
        refine n35 ?_
        replace hF := lett_some hF; obtain ⟨k37, e37, hF⟩ := hF
        have J37 : ∀  (h_38 : AHeap), k37 h_38 = some (rR, hR) → Go w0 m0 (Func.ntmps Try.f5) (K34 .normal) [] [] h_38 := by
          intro  h_38 hF
          rw [e37] at hF
          refine n34 ?_
          refine W.seqK (by kernel_rfl) (fun K39 n39 e39 r39 p39 => ?_)
          refine W.region (by kernel_rfl) ?_
          refine WL.val (d := (some 6)) (v := .bool true) (h' := h_38) (by kernel_rfl) (by kernel_rfl) (by kernel_rfl) ?_
          refine WL.nil (by kernel_rfl) ?_
          refine Go.weaken (l' := [(6, .bool true)]) (Fr.sub_cons (by kernel_rfl) (Fr.sub_nil _)) ?_
          refine n39 ?_
          refine W.ret (by kernel_rfl) ?_
          obtain ⟨hF, hF2⟩ := ret_inj hF; subst hF; subst hF2
          exact leave_of (rs := [.tmp 6]) (vs := [.bool true]) (by kernel_rfl) (res_tmp (by kernel_rfl) res_nil) (by kernel_rfl)
        refine W.blockK (by kernel_rfl) (fun K36 n36 s36 o36 r36 p36 => ?_)
        refine W.loopK (by kernel_rfl) (fun I40 K40 b40 n40 e40 r40 p40 => ?_)
        have L40 : ∀ (m : Nat) (t10 : Int) (t11 : Int) (t12 : Int) (h_41 : AHeap), law21_RingReads_L0 call t0 t1 t2 t22 r27 k37 m t10 t11 t12 h_41 = some (rR, hR) → Go w0 m0 (Func.ntmps Try.f5) I40 [(0, .int .i64 t0), (1, t1), (2, t2), (7, strA t22), (9, r27), (10, .int .i64 t10), (11, .int .i64 t11), (12, .int .i64 t12)] [] h_41 := by
          intro m
          induction m with
          | zero => intro t10 t11 t12 h_41 hF; cases hF
          | succ m ih40 =>
            intro t10 t11 t12 h_41 hF
            rw [law21_RingReads_L0_s] at hF; unfold law21_RingReads_L0b at hF
            refine b40 ?_
            refine W.seqK (by kernel_rfl) (fun K42 n42 e42 r42 p42 => ?_)
            refine W.seqK (by kernel_rfl) (fun K43 n43 e43 r43 p43 => ?_)
            refine W.region (by kernel_rfl) ?_
            refine WL.val (d := (some 33)) (v := .int .i64 t12) (h' := h_41) (by kernel_rfl) (by kernel_rfl) (by kernel_rfl) ?_
            refine WL.val (d := (some 34)) (v := t1) (h' := h_41) (by kernel_rfl) (by kernel_rfl) (by kernel_rfl) ?_
            replace hF := obind_some hF; obtain ⟨t35, e44, hF⟩ := hF
            refine WL.val (d := (some 35)) (v := .int .i64 t35) (h' := h_41) (by kernel_rfl) (by kernel_rfl) (Eq.trans (by kernel_rfl) (len_row (P := Try.prog) (h := h_41) (t := 22) (e' := 9) (by kernel_rfl) e44)) ?_
            replace hF := lett_some hF; obtain ⟨t36, e45, hF⟩ := hF
            refine WL.val (d := (some 36)) (v := .bool t36) (h' := h_41) (by kernel_rfl) (by kernel_rfl) (val_of AV.bool e45 (by kernel_rfl)) ?_
            refine WL.nil (by kernel_rfl) ?_
            refine Go.weaken (l' := [(0, .int .i64 t0), (1, t1), (2, t2), (7, strA t22), (9, r27), (10, .int .i64 t10), (11, .int .i64 t11), (12, .int .i64 t12), (36, .bool t36)]) (Fr.sub_cons (by kernel_rfl) (Fr.sub_cons (by kernel_rfl) (Fr.sub_cons (by kernel_rfl) (Fr.sub_cons (by kernel_rfl) (Fr.sub_cons (by kernel_rfl) (Fr.sub_cons (by kernel_rfl) (Fr.sub_cons (by kernel_rfl) (Fr.sub_cons (by kernel_rfl) (Fr.sub_cons (by kernel_rfl) (Fr.sub_nil _)))))))))) ?_
            refine n43 ?_
            cases t36 with
            | true =>
              replace hF := ifB_t hF
              refine W.cond_true (by kernel_rfl) (by kernel_rfl) ?_
              refine W.skip (by kernel_rfl) ?_
              refine n42 ?_
              refine W.seqK (by kernel_rfl) (fun K46 n46 e46 r46 p46 => ?_)
              replace hF := lett_some hF; obtain ⟨k48, e48, hF⟩ := hF
              have J48 : ∀ (t10_49 : Int) (t11_50 : Int) (h_51 : AHeap), k48 t10_49 t11_50 h_51 = some (rR, hR) → Go w0 m0 (Func.ntmps Try.f5) (K46 .normal) [(0, .int .i64 t0), (1, t1), (2, t2), (7, strA t22), (9, r27), (10, .int .i64 t10_49), (11, .int .i64 t11_50), (12, .int .i64 t12)] [] h_51 := by
                intro t10_49 t11_50 h_51 hF
                rw [e48] at hF
                refine n46 ?_
                refine W.region (by kernel_rfl) ?_
                refine WL.val (d := (some 37)) (v := .int .i64 t12) (h' := h_51) (by kernel_rfl) (by kernel_rfl) (by kernel_rfl) ?_
                replace hF := lett_some hF; obtain ⟨t38, e52, hF⟩ := hF
                refine WL.val (d := (some 38)) (v := .int .i64 t38) (h' := h_51) (by kernel_rfl) (by kernel_rfl) (val_of (AV.int .i64) e52 (by kernel_rfl)) ?_
                refine WL.val (d := (some 12)) (v := .int .i64 t38) (h' := h_51) (by kernel_rfl) (by kernel_rfl) (by kernel_rfl) ?_
                refine WL.nil (by kernel_rfl) ?_
                refine Go.weaken (l' := [(0, .int .i64 t0), (1, t1), (2, t2), (7, strA t22), (9, r27), (10, .int .i64 t10_49), (11, .int .i64 t11_50), (12, .int .i64 t38)]) (Fr.sub_cons (by kernel_rfl) (Fr.sub_cons (by kernel_rfl) (Fr.sub_cons (by kernel_rfl) (Fr.sub_cons (by kernel_rfl) (Fr.sub_cons (by kernel_rfl) (Fr.sub_cons (by kernel_rfl) (Fr.sub_cons (by kernel_rfl) (Fr.sub_cons (by kernel_rfl) (Fr.sub_nil _))))))))) ?_
                refine n40 ?_
                exact Go.weaken (Fr.sub_cons (by kernel_rfl) (Fr.sub_cons (by kernel_rfl) (Fr.sub_cons (by kernel_rfl) (Fr.sub_cons (by kernel_rfl) (Fr.sub_cons (by kernel_rfl) (Fr.sub_cons (by kernel_rfl) (Fr.sub_cons (by kernel_rfl) (Fr.sub_cons (by kernel_rfl) (Fr.sub_nil _))))))))) (ih40 _ _ _ _ hF)
              refine W.blockK (by kernel_rfl) (fun K47 n47 s47 o47 r47 p47 => ?_)
              refine W.seqK (by kernel_rfl) (fun K53 n53 e53 r53 p53 => ?_)
              refine W.region (by kernel_rfl) ?_
              refine WL.val (d := (some 39)) (v := r27) (h' := h_41) (by kernel_rfl) (by kernel_rfl) (by kernel_rfl) ?_
              refine WL.val (d := (some 40)) (v := t1) (h' := h_41) (by kernel_rfl) (by kernel_rfl) (by kernel_rfl) ?_
              refine WL.val (d := (some 41)) (v := .int .i64 t12) (h' := h_41) (by kernel_rfl) (by kernel_rfl) (by kernel_rfl) ?_
              replace hF := obind_some hF; obtain ⟨t42, e54, hF⟩ := hF
              refine WL.val (d := (some 42)) (v := t42) (h' := h_41) (by kernel_rfl) (by kernel_rfl) (Eq.trans (by kernel_rfl) (index_row (P := Try.prog) (h := h_41) (t := 22) (e' := 9) (k := .i64) (by kernel_rfl) (by kernel_rfl) (by kernel_rfl) e54)) ?_
              replace hF := obind_some hF; obtain ⟨v43, e55, hF⟩ := hF
              replace hF := obind_some hF; obtain ⟨t43, c56, hF⟩ := hF
              have c56 := avStr_some c56
              subst c56
              refine WL.val (d := (some 43)) (v := strA t43) (h' := h_41) (by kernel_rfl) (by kernel_rfl) (Eq.trans (by kernel_rfl) (load_cell (P := Try.prog) (h := h_41) (t := 9) (by kernel_rfl) e55)) ?_
              replace hF := callN_some hF; obtain ⟨r44, h_57, e58, hF⟩ := hF
              refine WL.call (hc.ok w0) (d := (some 44)) (by kernel_rfl) (by kernel_rfl) (by kernel_rfl) e58 ?_
              refine WL.nil (by kernel_rfl) ?_
              refine Go.weaken (l' := [(0, .int .i64 t0), (1, t1), (2, t2), (7, strA t22), (9, r27), (10, .int .i64 t10), (11, .int .i64 t11), (12, .int .i64 t12)]) (Fr.sub_cons (by kernel_rfl) (Fr.sub_cons (by kernel_rfl) (Fr.sub_cons (by kernel_rfl) (Fr.sub_cons (by kernel_rfl) (Fr.sub_cons (by kernel_rfl) (Fr.sub_cons (by kernel_rfl) (Fr.sub_cons (by kernel_rfl) (Fr.sub_cons (by kernel_rfl) (Fr.sub_nil _))))))))) ?_
              refine n53 ?_
              refine W.seqK (by kernel_rfl) (fun K59 n59 e59 r59 p59 => ?_)
              refine W.region (by kernel_rfl) ?_
              refine WL.val (d := (some 45)) (v := .int .i64 t11) (h' := h_57) (by kernel_rfl) (by kernel_rfl) (by kernel_rfl) ?_
              refine WL.val (d := (some 46)) (v := t1) (h' := h_57) (by kernel_rfl) (by kernel_rfl) (by kernel_rfl) ?_
              refine WL.val (d := (some 47)) (v := .int .i64 t12) (h' := h_57) (by kernel_rfl) (by kernel_rfl) (by kernel_rfl) ?_
              replace hF := obind_some hF; obtain ⟨t48, e60, hF⟩ := hF
              refine WL.val (d := (some 48)) (v := t48) (h' := h_57) (by kernel_rfl) (by kernel_rfl) (Eq.trans (by kernel_rfl) (index_row (P := Try.prog) (h := h_57) (t := 22) (e' := 9) (k := .i64) (by kernel_rfl) (by kernel_rfl) (by kernel_rfl) e60)) ?_
              replace hF := obind_some hF; obtain ⟨v49, e61, hF⟩ := hF
              replace hF := obind_some hF; obtain ⟨t49, c62, hF⟩ := hF
              have c62 := avStr_some c62
              subst c62
              refine WL.val (d := (some 49)) (v := strA t49) (h' := h_57) (by kernel_rfl) (by kernel_rfl) (Eq.trans (by kernel_rfl) (load_cell (P := Try.prog) (h := h_57) (t := 9) (by kernel_rfl) e61)) ?_
              refine WL.val (d := (some 50)) (v := .int .i64 (lenS t49)) (h' := h_57) (by kernel_rfl) (by kernel_rfl) (by kernel_rfl) ?_
              replace hF := lett_some hF; obtain ⟨t51, e63, hF⟩ := hF
              refine WL.val (d := (some 51)) (v := .int .i64 t51) (h' := h_57) (by kernel_rfl) (by kernel_rfl) (val_of (AV.int .i64) e63 (by kernel_rfl)) ?_
              refine WL.val (d := (some 11)) (v := .int .i64 t51) (h' := h_57) (by kernel_rfl) (by kernel_rfl) (by kernel_rfl) ?_
              refine WL.nil (by kernel_rfl) ?_
              refine Go.weaken (l' := [(0, .int .i64 t0), (1, t1), (2, t2), (7, strA t22), (9, r27), (10, .int .i64 t10), (11, .int .i64 t51), (12, .int .i64 t12)]) (Fr.sub_cons (by kernel_rfl) (Fr.sub_cons (by kernel_rfl) (Fr.sub_cons (by kernel_rfl) (Fr.sub_cons (by kernel_rfl) (Fr.sub_cons (by kernel_rfl) (Fr.sub_cons (by kernel_rfl) (Fr.sub_cons (by kernel_rfl) (Fr.sub_cons (by kernel_rfl) (Fr.sub_nil _))))))))) ?_
              refine n59 ?_
              refine W.seqK (by kernel_rfl) (fun K64 n64 e64 r64 p64 => ?_)
              refine W.region (by kernel_rfl) ?_
              refine WL.val (d := (some 13)) (v := .int .i64 1048576) (h' := h_57) (by kernel_rfl) (by kernel_rfl) (by kernel_rfl) ?_
              refine WL.nil (by kernel_rfl) ?_
              refine Go.weaken (l' := [(0, .int .i64 t0), (1, t1), (2, t2), (7, strA t22), (9, r27), (10, .int .i64 t10), (11, .int .i64 t51), (12, .int .i64 t12), (13, .int .i64 1048576)]) (Fr.sub_cons (by kernel_rfl) (Fr.sub_cons (by kernel_rfl) (Fr.sub_cons (by kernel_rfl) (Fr.sub_cons (by kernel_rfl) (Fr.sub_cons (by kernel_rfl) (Fr.sub_cons (by kernel_rfl) (Fr.sub_cons (by kernel_rfl) (Fr.sub_cons (by kernel_rfl) (Fr.sub_cons (by kernel_rfl) (Fr.sub_nil _)))))))))) ?_
              refine n64 ?_
              refine W.seqK (by kernel_rfl) (fun K65 n65 e65 r65 p65 => ?_)
              refine W.seqK (by kernel_rfl) (fun K66 n66 e66 r66 p66 => ?_)
              refine W.region (by kernel_rfl) ?_
              refine WL.val (d := (some 52)) (v := t2) (h' := h_57) (by kernel_rfl) (by kernel_rfl) (by kernel_rfl) ?_
              replace hF := obind_some hF; obtain ⟨t53, e67, hF⟩ := hF
              refine WL.val (d := (some 53)) (v := .int .i64 t53) (h' := h_57) (by kernel_rfl) (by kernel_rfl) (Eq.trans (by kernel_rfl) (len_row (P := Try.prog) (h := h_57) (t := 39) (e' := 3) (by kernel_rfl) e67)) ?_
              replace hF := lett_some hF; obtain ⟨t54, e68, hF⟩ := hF
              refine WL.val (d := (some 54)) (v := .bool t54) (h' := h_57) (by kernel_rfl) (by kernel_rfl) (val_of AV.bool e68 (by kernel_rfl)) ?_
              refine WL.nil (by kernel_rfl) ?_
              refine Go.weaken (l' := [(0, .int .i64 t0), (1, t1), (2, t2), (7, strA t22), (9, r27), (10, .int .i64 t10), (11, .int .i64 t51), (12, .int .i64 t12), (13, .int .i64 1048576), (54, .bool t54)]) (Fr.sub_cons (by kernel_rfl) (Fr.sub_cons (by kernel_rfl) (Fr.sub_cons (by kernel_rfl) (Fr.sub_cons (by kernel_rfl) (Fr.sub_cons (by kernel_rfl) (Fr.sub_cons (by kernel_rfl) (Fr.sub_cons (by kernel_rfl) (Fr.sub_cons (by kernel_rfl) (Fr.sub_cons (by kernel_rfl) (Fr.sub_cons (by kernel_rfl) (Fr.sub_nil _))))))))))) ?_
              refine n66 ?_
              replace hF := lett_some hF; obtain ⟨k69, e69, hF⟩ := hF
              have J69 : ∀ (t13 : Int) (h_70 : AHeap), k69 t13 h_70 = some (rR, hR) → Go w0 m0 (Func.ntmps Try.f5) (K65 .normal) [(0, .int .i64 t0), (1, t1), (2, t2), (7, strA t22), (9, r27), (10, .int .i64 t10), (11, .int .i64 t51), (12, .int .i64 t12), (13, .int .i64 t13)] [] h_70 := by
                intro t13 h_70 hF
                rw [e69] at hF
                refine n65 ?_
                refine W.seqK (by kernel_rfl) (fun K71 n71 e71 r71 p71 => ?_)
                refine W.region (by kernel_rfl) ?_
                refine WL.val (d := (some 63)) (v := r27) (h' := h_70) (by kernel_rfl) (by kernel_rfl) (by kernel_rfl) ?_
                refine WL.val (d := (some 64)) (v := .int .i64 t10) (h' := h_70) (by kernel_rfl) (by kernel_rfl) (by kernel_rfl) ?_
                refine WL.val (d := (some 65)) (v := .int .i64 t13) (h' := h_70) (by kernel_rfl) (by kernel_rfl) (by kernel_rfl) ?_
                replace hF := callN_some hF; obtain ⟨r66, h_72, e73, hF⟩ := hF
                refine WL.call (hc.ok w0) (d := (some 66)) (by kernel_rfl) (by kernel_rfl) (by kernel_rfl) e73 ?_
                refine WL.val (d := (some 62)) (v := r66) (h' := h_72) (by kernel_rfl) (by kernel_rfl) (by kernel_rfl) ?_
                replace hF := obind_some hF; obtain ⟨v67, e74, hF⟩ := hF
                replace hF := obind_some hF; obtain ⟨t67, c75, hF⟩ := hF
                have c75 := avStr_some c75
                subst c75
                refine WL.val (d := (some 67)) (v := strA t67) (h' := h_72) (by kernel_rfl) (by kernel_rfl) (Eq.trans (by kernel_rfl) (extract_tup (h := h_72) e74)) ?_
                replace hF := obind_some hF; obtain ⟨v68, e76, hF⟩ := hF
                replace hF := obind_some hF; obtain ⟨t68, c77, hF⟩ := hF
                have c77 := avInt_some c77
                subst c77
                refine WL.val (d := (some 68)) (v := .int .i64 t68) (h' := h_72) (by kernel_rfl) (by kernel_rfl) (Eq.trans (by kernel_rfl) (extract_tup (h := h_72) e76)) ?_
                replace hF := obind_some hF; obtain ⟨v69, e78, hF⟩ := hF
                replace hF := obind_some hF; obtain ⟨t69, c79, hF⟩ := hF
                have c79 := avInt_some c79
                subst c79
                refine WL.val (d := (some 69)) (v := .int .i64 t69) (h' := h_72) (by kernel_rfl) (by kernel_rfl) (Eq.trans (by kernel_rfl) (extract_tup (h := h_72) e78)) ?_
                refine WL.val (d := (some 14)) (v := strA t67) (h' := h_72) (by kernel_rfl) (by kernel_rfl) (by kernel_rfl) ?_
                refine WL.val (d := (some 15)) (v := .int .i64 t68) (h' := h_72) (by kernel_rfl) (by kernel_rfl) (by kernel_rfl) ?_
                refine WL.val (d := (some 16)) (v := .int .i64 t69) (h' := h_72) (by kernel_rfl) (by kernel_rfl) (by kernel_rfl) ?_
                refine WL.nil (by kernel_rfl) ?_
                refine Go.weaken (l' := [(0, .int .i64 t0), (1, t1), (2, t2), (7, strA t22), (9, r27), (10, .int .i64 t10), (11, .int .i64 t51), (12, .int .i64 t12), (13, .int .i64 t13), (14, strA t67), (15, .int .i64 t68), (16, .int .i64 t69)]) (Fr.sub_cons (by kernel_rfl) (Fr.sub_cons (by kernel_rfl) (Fr.sub_cons (by kernel_rfl) (Fr.sub_cons (by kernel_rfl) (Fr.sub_cons (by kernel_rfl) (Fr.sub_cons (by kernel_rfl) (Fr.sub_cons (by kernel_rfl) (Fr.sub_cons (by kernel_rfl) (Fr.sub_cons (by kernel_rfl) (Fr.sub_cons (by kernel_rfl) (Fr.sub_cons (by kernel_rfl) (Fr.sub_cons (by kernel_rfl) (Fr.sub_nil _))))))))))))) ?_
                refine n71 ?_
                refine W.seqK (by kernel_rfl) (fun K80 n80 e80 r80 p80 => ?_)
                refine W.seqK (by kernel_rfl) (fun K81 n81 e81 r81 p81 => ?_)
                refine W.region (by kernel_rfl) ?_
                refine WL.val (d := (some 70)) (v := .int .i64 t13) (h' := h_72) (by kernel_rfl) (by kernel_rfl) (by kernel_rfl) ?_
                replace hF := lett_some hF; obtain ⟨t71, e82, hF⟩ := hF
                refine WL.val (d := (some 71)) (v := .bool t71) (h' := h_72) (by kernel_rfl) (by kernel_rfl) (val_of AV.bool e82 (by kernel_rfl)) ?_
                refine WL.nil (by kernel_rfl) ?_
                refine Go.weaken (l' := [(0, .int .i64 t0), (1, t1), (2, t2), (7, strA t22), (9, r27), (10, .int .i64 t10), (11, .int .i64 t51), (12, .int .i64 t12), (13, .int .i64 t13), (14, strA t67), (15, .int .i64 t68), (16, .int .i64 t69), (71, .bool t71)]) (Fr.sub_cons (by kernel_rfl) (Fr.sub_cons (by kernel_rfl) (Fr.sub_cons (by kernel_rfl) (Fr.sub_cons (by kernel_rfl) (Fr.sub_cons (by kernel_rfl) (Fr.sub_cons (by kernel_rfl) (Fr.sub_cons (by kernel_rfl) (Fr.sub_cons (by kernel_rfl) (Fr.sub_cons (by kernel_rfl) (Fr.sub_cons (by kernel_rfl) (Fr.sub_cons (by kernel_rfl) (Fr.sub_cons (by kernel_rfl) (Fr.sub_cons (by kernel_rfl) (Fr.sub_nil _)))))))))))))) ?_
                refine n81 ?_
                cases t71 with
                | true =>
                  replace hF := ifB_t hF
                  refine W.cond_true (by kernel_rfl) (by kernel_rfl) ?_
                  refine W.seqK (by kernel_rfl) (fun K83 n83 e83 r83 p83 => ?_)
                  refine W.seqK (by kernel_rfl) (fun K84 n84 e84 r84 p84 => ?_)
                  refine W.region (by kernel_rfl) ?_
                  refine WL.val (d := (some 72)) (v := .int .i64 t69) (h' := h_72) (by kernel_rfl) (by kernel_rfl) (by kernel_rfl) ?_
                  replace hF := lett_some hF; obtain ⟨t73, e85, hF⟩ := hF
                  refine WL.val (d := (some 73)) (v := .bool t73) (h' := h_72) (by kernel_rfl) (by kernel_rfl) (val_of AV.bool e85 (by kernel_rfl)) ?_
                  refine WL.val (d := (some 74)) (v := .bool t73) (h' := h_72) (by kernel_rfl) (by kernel_rfl) (by kernel_rfl) ?_
                  replace hF := lett_some hF; obtain ⟨j77, e87, hF⟩ := hF
                  have J88 : ∀ (t77 : Bool) (h_86 : AHeap), j77 t77 h_86 = some (rR, hR) → WL Try.prog w0 m0 (Func.ntmps Try.f5) (Code.ops (Code.p1 (Code.p1 (Code.p1 (Code.p2 (Code.p1 (Code.p2 (Code.p2 (Code.p2 (Code.p2 (Code.p2 (Code.p1 (Code.p1 (Code.p2 (Code.p1 (Code.p1 (Code.p2 (Code.p1 (Code.p2 (Code.p2 (Code.p2 (Code.p2 (Code.p2 (Code.p2 (Code.p2 (codeOf Try.f5)))))))))))))))))))))))))) 6 K84 [(0, .int .i64 t0), (1, t1), (2, t2), (7, strA t22), (9, r27), (10, .int .i64 t10), (11, .int .i64 t51), (12, .int .i64 t12), (15, .int .i64 t68), (77, .bool t77)] [] h_86 := by
                    intro t77 h_86 hF
                    rw [e87] at hF
                    refine WL.val (d := (some 78)) (v := .bool t77) (h' := h_86) (by kernel_rfl) (by kernel_rfl) (by kernel_rfl) ?_
                    replace hF := lett_some hF; obtain ⟨j81, e90, hF⟩ := hF
                    have J91 : ∀ (t81 : Bool) (h_89 : AHeap), j81 t81 h_89 = some (rR, hR) → WL Try.prog w0 m0 (Func.ntmps Try.f5) (Code.ops (Code.p1 (Code.p1 (Code.p1 (Code.p2 (Code.p1 (Code.p2 (Code.p2 (Code.p2 (Code.p2 (Code.p2 (Code.p1 (Code.p1 (Code.p2 (Code.p1 (Code.p1 (Code.p2 (Code.p1 (Code.p2 (Code.p2 (Code.p2 (Code.p2 (Code.p2 (Code.p2 (Code.p2 (codeOf Try.f5)))))))))))))))))))))))))) 10 K84 [(0, .int .i64 t0), (1, t1), (2, t2), (7, strA t22), (9, r27), (10, .int .i64 t10), (11, .int .i64 t51), (12, .int .i64 t12), (81, .bool t81)] [] h_89 := by
                      intro t81 h_89 hF
                      rw [e90] at hF
                      refine WL.nil (by kernel_rfl) ?_
                      refine Go.weaken (l' := [(0, .int .i64 t0), (1, t1), (2, t2), (7, strA t22), (9, r27), (10, .int .i64 t10), (11, .int .i64 t51), (12, .int .i64 t12), (81, .bool t81)]) (Fr.sub_cons (by kernel_rfl) (Fr.sub_cons (by kernel_rfl) (Fr.sub_cons (by kernel_rfl) (Fr.sub_cons (by kernel_rfl) (Fr.sub_cons (by kernel_rfl) (Fr.sub_cons (by kernel_rfl) (Fr.sub_cons (by kernel_rfl) (Fr.sub_cons (by kernel_rfl) (Fr.sub_cons (by kernel_rfl) (Fr.sub_nil _)))))))))) ?_
                      refine n84 ?_
                      cases t81 with
                      | true =>
                        replace hF := ifB_t hF
                        refine W.cond_true (by kernel_rfl) (by kernel_rfl) ?_
                        refine W.seqK (by kernel_rfl) (fun K92 n92 e92 r92 p92 => ?_)
                        refine W.region (by kernel_rfl) ?_
                        refine WL.val (d := (some 6)) (v := .bool false) (h' := h_89) (by kernel_rfl) (by kernel_rfl) (by kernel_rfl) ?_
                        refine WL.nil (by kernel_rfl) ?_
                        refine Go.weaken (l' := [(6, .bool false)]) (Fr.sub_cons (by kernel_rfl) (Fr.sub_nil _)) ?_
                        refine n92 ?_
                        refine W.ret (by kernel_rfl) ?_
                        refine r83 ?_
                        refine r80 ?_
                        refine r47 ?_
                        refine r46 ?_
                        refine r40 ?_
                        refine r36 ?_
                        refine r34 ?_
                        obtain ⟨hF, hF2⟩ := ret_inj hF; subst hF; subst hF2
                        exact leave_of (rs := [.tmp 6]) (vs := [.bool false]) (by kernel_rfl) (res_tmp (by kernel_rfl) res_nil) (by kernel_rfl)
                      | false =>
                        replace hF := ifB_f hF
                        refine W.cond_false (by kernel_rfl) (by kernel_rfl) ?_
                        refine W.skip (by kernel_rfl) ?_
                        refine n83 ?_
                        refine W.exit (by kernel_rfl) ?_
                        refine e80 ?_
                        refine s47 (by kernel_rfl) ?_
                        exact Go.weaken (Fr.sub_cons (by kernel_rfl) (Fr.sub_cons (by kernel_rfl) (Fr.sub_cons (by kernel_rfl) (Fr.sub_cons (by kernel_rfl) (Fr.sub_cons (by kernel_rfl) (Fr.sub_cons (by kernel_rfl) (Fr.sub_cons (by kernel_rfl) (Fr.sub_cons (by kernel_rfl) (Fr.sub_nil _))))))))) (J48 _ _ _ hF)
                    cases t77 with
                    | true =>
                      replace hF := ifB_t hF
                      refine WL.not (d := (some 79)) (by kernel_rfl) (by kernel_rfl) ?_
                      refine WL.not (d := (some 80)) (by kernel_rfl) (by kernel_rfl) ?_
                      refine WL.val (d := (some 81)) (v := .bool true) (h' := h_86) (by kernel_rfl) (by kernel_rfl) (by kernel_rfl) ?_
                      exact WL.weaken (Fr.sub_cons (by kernel_rfl) (Fr.sub_cons (by kernel_rfl) (Fr.sub_cons (by kernel_rfl) (Fr.sub_cons (by kernel_rfl) (Fr.sub_cons (by kernel_rfl) (Fr.sub_cons (by kernel_rfl) (Fr.sub_cons (by kernel_rfl) (Fr.sub_cons (by kernel_rfl) (Fr.sub_cons (by kernel_rfl) (Fr.sub_nil _)))))))))) (J91 _ _ hF)
                    | false =>
                      replace hF := ifB_f hF
                      refine WL.val (d := (some 79)) (v := .int .i64 t68) (h' := h_86) (by kernel_rfl) (by kernel_rfl) (by kernel_rfl) ?_
                      replace hF := lett_some hF; obtain ⟨t80, e93, hF⟩ := hF
                      refine WL.val (d := (some 80)) (v := .bool t80) (h' := h_86) (by kernel_rfl) (by kernel_rfl) (val_of AV.bool e93 (by kernel_rfl)) ?_
                      refine WL.val (d := (some 81)) (v := .bool t80) (h' := h_86) (by kernel_rfl) (by kernel_rfl) (by kernel_rfl) ?_
                      exact WL.weaken (Fr.sub_cons (by kernel_rfl) (Fr.sub_cons (by kernel_rfl) (Fr.sub_cons (by kernel_rfl) (Fr.sub_cons (by kernel_rfl) (Fr.sub_cons (by kernel_rfl) (Fr.sub_cons (by kernel_rfl) (Fr.sub_cons (by kernel_rfl) (Fr.sub_cons (by kernel_rfl) (Fr.sub_cons (by kernel_rfl) (Fr.sub_nil _)))))))))) (J91 _ _ hF)
                  cases t73 with
                  | true =>
                    replace hF := ifB_t hF
                    refine WL.not (d := (some 75)) (by kernel_rfl) (by kernel_rfl) ?_
                    refine WL.not (d := (some 76)) (by kernel_rfl) (by kernel_rfl) ?_
                    refine WL.val (d := (some 77)) (v := .bool true) (h' := h_72) (by kernel_rfl) (by kernel_rfl) (by kernel_rfl) ?_
                    exact WL.weaken (Fr.sub_cons (by kernel_rfl) (Fr.sub_cons (by kernel_rfl) (Fr.sub_cons (by kernel_rfl) (Fr.sub_cons (by kernel_rfl) (Fr.sub_cons (by kernel_rfl) (Fr.sub_cons (by kernel_rfl) (Fr.sub_cons (by kernel_rfl) (Fr.sub_cons (by kernel_rfl) (Fr.sub_cons (by kernel_rfl) (Fr.sub_cons (by kernel_rfl) (Fr.sub_nil _))))))))))) (J88 _ _ hF)
                  | false =>
                    replace hF := ifB_f hF
                    refine WL.val (d := (some 75)) (v := strA t67) (h' := h_72) (by kernel_rfl) (by kernel_rfl) (by kernel_rfl) ?_
                    replace hF := lett_some hF; obtain ⟨t76, e94, hF⟩ := hF
                    refine WL.val (d := (some 76)) (v := .bool t76) (h' := h_72) (by kernel_rfl) (by kernel_rfl) (val_of AV.bool e94 (by kernel_rfl)) ?_
                    refine WL.val (d := (some 77)) (v := .bool t76) (h' := h_72) (by kernel_rfl) (by kernel_rfl) (by kernel_rfl) ?_
                    exact WL.weaken (Fr.sub_cons (by kernel_rfl) (Fr.sub_cons (by kernel_rfl) (Fr.sub_cons (by kernel_rfl) (Fr.sub_cons (by kernel_rfl) (Fr.sub_cons (by kernel_rfl) (Fr.sub_cons (by kernel_rfl) (Fr.sub_cons (by kernel_rfl) (Fr.sub_cons (by kernel_rfl) (Fr.sub_cons (by kernel_rfl) (Fr.sub_cons (by kernel_rfl) (Fr.sub_nil _))))))))))) (J88 _ _ hF)
                | false =>
                  replace hF := ifB_f hF
                  refine W.cond_false (by kernel_rfl) (by kernel_rfl) ?_
                  refine W.skip (by kernel_rfl) ?_
                  refine n80 ?_
                  refine W.seqK (by kernel_rfl) (fun K95 n95 e95 r95 p95 => ?_)
                  refine W.seqK (by kernel_rfl) (fun K96 n96 e96 r96 p96 => ?_)
                  refine W.region (by kernel_rfl) ?_
                  refine WL.val (d := (some 82)) (v := .int .i64 t69) (h' := h_72) (by kernel_rfl) (by kernel_rfl) (by kernel_rfl) ?_
                  replace hF := lett_some hF; obtain ⟨t83, e97, hF⟩ := hF
                  refine WL.val (d := (some 83)) (v := .bool t83) (h' := h_72) (by kernel_rfl) (by kernel_rfl) (val_of AV.bool e97 (by kernel_rfl)) ?_
                  refine WL.val (d := (some 84)) (v := .bool t83) (h' := h_72) (by kernel_rfl) (by kernel_rfl) (by kernel_rfl) ?_
                  replace hF := lett_some hF; obtain ⟨j88, e99, hF⟩ := hF
                  have J100 : ∀ (t88 : Bool) (h_98 : AHeap), j88 t88 h_98 = some (rR, hR) → WL Try.prog w0 m0 (Func.ntmps Try.f5) (Code.ops (Code.p1 (Code.p1 (Code.p2 (Code.p2 (Code.p2 (Code.p2 (Code.p2 (Code.p2 (Code.p1 (Code.p1 (Code.p2 (Code.p1 (Code.p1 (Code.p2 (Code.p1 (Code.p2 (Code.p2 (Code.p2 (Code.p2 (Code.p2 (Code.p2 (Code.p2 (codeOf Try.f5)))))))))))))))))))))))) 7 K96 [(0, .int .i64 t0), (1, t1), (2, t2), (7, strA t22), (9, r27), (10, .int .i64 t10), (11, .int .i64 t51), (12, .int .i64 t12), (13, .int .i64 t13), (14, strA t67), (15, .int .i64 t68), (88, .bool t88)] [] h_98 := by
                    intro t88 h_98 hF
                    rw [e99] at hF
                    refine WL.val (d := (some 89)) (v := .bool t88) (h' := h_98) (by kernel_rfl) (by kernel_rfl) (by kernel_rfl) ?_
                    replace hF := lett_some hF; obtain ⟨j93, e102, hF⟩ := hF
                    have J103 : ∀ (t93 : Bool) (h_101 : AHeap), j93 t93 h_101 = some (rR, hR) → WL Try.prog w0 m0 (Func.ntmps Try.f5) (Code.ops (Code.p1 (Code.p1 (Code.p2 (Code.p2 (Code.p2 (Code.p2 (Code.p2 (Code.p2 (Code.p1 (Code.p1 (Code.p2 (Code.p1 (Code.p1 (Code.p2 (Code.p1 (Code.p2 (Code.p2 (Code.p2 (Code.p2 (Code.p2 (Code.p2 (Code.p2 (codeOf Try.f5)))))))))))))))))))))))) 12 K96 [(0, .int .i64 t0), (1, t1), (2, t2), (7, strA t22), (9, r27), (10, .int .i64 t10), (11, .int .i64 t51), (12, .int .i64 t12), (13, .int .i64 t13), (14, strA t67), (15, .int .i64 t68), (93, .bool t93)] [] h_101 := by
                      intro t93 h_101 hF
                      rw [e102] at hF
                      refine WL.val (d := (some 94)) (v := .bool t93) (h' := h_101) (by kernel_rfl) (by kernel_rfl) (by kernel_rfl) ?_
                      replace hF := lett_some hF; obtain ⟨j101, e105, hF⟩ := hF
                      have J106 : ∀ (t101 : Bool) (h_104 : AHeap), j101 t101 h_104 = some (rR, hR) → WL Try.prog w0 m0 (Func.ntmps Try.f5) (Code.ops (Code.p1 (Code.p1 (Code.p2 (Code.p2 (Code.p2 (Code.p2 (Code.p2 (Code.p2 (Code.p1 (Code.p1 (Code.p2 (Code.p1 (Code.p1 (Code.p2 (Code.p1 (Code.p2 (Code.p2 (Code.p2 (Code.p2 (Code.p2 (Code.p2 (Code.p2 (codeOf Try.f5)))))))))))))))))))))))) 20 K96 [(0, .int .i64 t0), (1, t1), (2, t2), (7, strA t22), (9, r27), (10, .int .i64 t10), (11, .int .i64 t51), (12, .int .i64 t12), (13, .int .i64 t13), (14, strA t67), (15, .int .i64 t68), (101, .bool t101)] [] h_104 := by
                        intro t101 h_104 hF
                        rw [e105] at hF
                        refine WL.val (d := (some 102)) (v := .bool t101) (h' := h_104) (by kernel_rfl) (by kernel_rfl) (by kernel_rfl) ?_
                        replace hF := lett_some hF; obtain ⟨j112, e108, hF⟩ := hF
                        have J109 : ∀ (t112 : Bool) (h_107 : AHeap), j112 t112 h_107 = some (rR, hR) → WL Try.prog w0 m0 (Func.ntmps Try.f5) (Code.ops (Code.p1 (Code.p1 (Code.p2 (Code.p2 (Code.p2 (Code.p2 (Code.p2 (Code.p2 (Code.p1 (Code.p1 (Code.p2 (Code.p1 (Code.p1 (Code.p2 (Code.p1 (Code.p2 (Code.p2 (Code.p2 (Code.p2 (Code.p2 (Code.p2 (Code.p2 (codeOf Try.f5)))))))))))))))))))))))) 31 K96 [(0, .int .i64 t0), (1, t1), (2, t2), (7, strA t22), (9, r27), (10, .int .i64 t10), (11, .int .i64 t51), (12, .int .i64 t12), (13, .int .i64 t13), (14, strA t67), (15, .int .i64 t68), (112, .bool t112)] [] h_107 := by
                          intro t112 h_107 hF
                          rw [e108] at hF
                          refine WL.val (d := (some 113)) (v := .bool t112) (h' := h_107) (by kernel_rfl) (by kernel_rfl) (by kernel_rfl) ?_
                          replace hF := lett_some hF; obtain ⟨j118, e111, hF⟩ := hF
                          have J112 : ∀ (t118 : Bool) (h_110 : AHeap), j118 t118 h_110 = some (rR, hR) → WL Try.prog w0 m0 (Func.ntmps Try.f5) (Code.ops (Code.p1 (Code.p1 (Code.p2 (Code.p2 (Code.p2 (Code.p2 (Code.p2 (Code.p2 (Code.p1 (Code.p1 (Code.p2 (Code.p1 (Code.p1 (Code.p2 (Code.p1 (Code.p2 (Code.p2 (Code.p2 (Code.p2 (Code.p2 (Code.p2 (Code.p2 (codeOf Try.f5)))))))))))))))))))))))) 37 K96 [(0, .int .i64 t0), (1, t1), (2, t2), (7, strA t22), (9, r27), (10, .int .i64 t10), (11, .int .i64 t51), (12, .int .i64 t12), (13, .int .i64 t13), (14, strA t67), (15, .int .i64 t68), (118, .bool t118)] [] h_110 := by
                            intro t118 h_110 hF
                            rw [e111] at hF
                            refine WL.nil (by kernel_rfl) ?_
                            refine Go.weaken (l' := [(0, .int .i64 t0), (1, t1), (2, t2), (7, strA t22), (9, r27), (10, .int .i64 t10), (11, .int .i64 t51), (12, .int .i64 t12), (13, .int .i64 t13), (14, strA t67), (15, .int .i64 t68), (118, .bool t118)]) (Fr.sub_cons (by kernel_rfl) (Fr.sub_cons (by kernel_rfl) (Fr.sub_cons (by kernel_rfl) (Fr.sub_cons (by kernel_rfl) (Fr.sub_cons (by kernel_rfl) (Fr.sub_cons (by kernel_rfl) (Fr.sub_cons (by kernel_rfl) (Fr.sub_cons (by kernel_rfl) (Fr.sub_cons (by kernel_rfl) (Fr.sub_cons (by kernel_rfl) (Fr.sub_cons (by kernel_rfl) (Fr.sub_cons (by kernel_rfl) (Fr.sub_nil _))))))))))))) ?_
                            refine n96 ?_
                            cases t118 with
                            | true =>
                              replace hF := ifB_t hF
                              refine W.cond_true (by kernel_rfl) (by kernel_rfl) ?_
                              refine W.seqK (by kernel_rfl) (fun K113 n113 e113 r113 p113 => ?_)
                              refine W.region (by kernel_rfl) ?_
                              refine WL.val (d := (some 6)) (v := .bool false) (h' := h_110) (by kernel_rfl) (by kernel_rfl) (by kernel_rfl) ?_
                              refine WL.nil (by kernel_rfl) ?_
                              refine Go.weaken (l' := [(6, .bool false)]) (Fr.sub_cons (by kernel_rfl) (Fr.sub_nil _)) ?_
                              refine n113 ?_
                              refine W.ret (by kernel_rfl) ?_
                              refine r95 ?_
                              refine r47 ?_
                              refine r46 ?_
                              refine r40 ?_
                              refine r36 ?_
                              refine r34 ?_
                              obtain ⟨hF, hF2⟩ := ret_inj hF; subst hF; subst hF2
                              exact leave_of (rs := [.tmp 6]) (vs := [.bool false]) (by kernel_rfl) (res_tmp (by kernel_rfl) res_nil) (by kernel_rfl)
                            | false =>
                              replace hF := ifB_f hF
                              refine W.cond_false (by kernel_rfl) (by kernel_rfl) ?_
                              refine W.skip (by kernel_rfl) ?_
                              refine n95 ?_
                              refine W.seqK (by kernel_rfl) (fun K114 n114 e114 r114 p114 => ?_)
                              refine W.seqK (by kernel_rfl) (fun K115 n115 e115 r115 p115 => ?_)
                              refine W.region (by kernel_rfl) ?_
                              refine WL.val (d := (some 119)) (v := .int .i64 t68) (h' := h_110) (by kernel_rfl) (by kernel_rfl) (by kernel_rfl) ?_
                              refine WL.val (d := (some 120)) (v := .int .i64 t10) (h' := h_110) (by kernel_rfl) (by kernel_rfl) (by kernel_rfl) ?_
                              replace hF := lett_some hF; obtain ⟨t121, e116, hF⟩ := hF
                              refine WL.val (d := (some 121)) (v := .bool t121) (h' := h_110) (by kernel_rfl) (by kernel_rfl) (val_of AV.bool e116 (by kernel_rfl)) ?_
                              refine WL.val (d := (some 122)) (v := .bool t121) (h' := h_110) (by kernel_rfl) (by kernel_rfl) (by kernel_rfl) ?_
                              replace hF := lett_some hF; obtain ⟨j128, e118, hF⟩ := hF
                              have J119 : ∀ (t128 : Bool) (h_117 : AHeap), j128 t128 h_117 = some (rR, hR) → WL Try.prog w0 m0 (Func.ntmps Try.f5) (Code.ops (Code.p1 (Code.p1 (Code.p2 (Code.p2 (Code.p2 (Code.p2 (Code.p2 (Code.p2 (Code.p2 (Code.p1 (Code.p1 (Code.p2 (Code.p1 (Code.p1 (Code.p2 (Code.p1 (Code.p2 (Code.p2 (Code.p2 (Code.p2 (Code.p2 (Code.p2 (Code.p2 (codeOf Try.f5))))))))))))))))))))))))) 10 K115 [(0, .int .i64 t0), (1, t1), (2, t2), (7, strA t22), (9, r27), (10, .int .i64 t10), (11, .int .i64 t51), (12, .int .i64 t12), (13, .int .i64 t13), (14, strA t67), (15, .int .i64 t68), (128, .bool t128)] [] h_117 := by
                                intro t128 h_117 hF
                                rw [e118] at hF
                                refine WL.val (d := (some 129)) (v := .bool t128) (h' := h_117) (by kernel_rfl) (by kernel_rfl) (by kernel_rfl) ?_
                                replace hF := lett_some hF; obtain ⟨j140, e121, hF⟩ := hF
                                have J122 : ∀ (t140 : Bool) (h_120 : AHeap), j140 t140 h_120 = some (rR, hR) → WL Try.prog w0 m0 (Func.ntmps Try.f5) (Code.ops (Code.p1 (Code.p1 (Code.p2 (Code.p2 (Code.p2 (Code.p2 (Code.p2 (Code.p2 (Code.p2 (Code.p1 (Code.p1 (Code.p2 (Code.p1 (Code.p1 (Code.p2 (Code.p1 (Code.p2 (Code.p2 (Code.p2 (Code.p2 (Code.p2 (Code.p2 (Code.p2 (codeOf Try.f5))))))))))))))))))))))))) 22 K115 [(0, .int .i64 t0), (1, t1), (2, t2), (7, strA t22), (9, r27), (11, .int .i64 t51), (12, .int .i64 t12), (13, .int .i64 t13), (14, strA t67), (15, .int .i64 t68), (140, .bool t140)] [] h_120 := by
                                  intro t140 h_120 hF
                                  rw [e121] at hF
                                  refine WL.nil (by kernel_rfl) ?_
                                  refine Go.weaken (l' := [(0, .int .i64 t0), (1, t1), (2, t2), (7, strA t22), (9, r27), (11, .int .i64 t51), (12, .int .i64 t12), (13, .int .i64 t13), (14, strA t67), (15, .int .i64 t68), (140, .bool t140)]) (Fr.sub_cons (by kernel_rfl) (Fr.sub_cons (by kernel_rfl) (Fr.sub_cons (by kernel_rfl) (Fr.sub_cons (by kernel_rfl) (Fr.sub_cons (by kernel_rfl) (Fr.sub_cons (by kernel_rfl) (Fr.sub_cons (by kernel_rfl) (Fr.sub_cons (by kernel_rfl) (Fr.sub_cons (by kernel_rfl) (Fr.sub_cons (by kernel_rfl) (Fr.sub_cons (by kernel_rfl) (Fr.sub_nil _)))))))))))) ?_
                                  refine n115 ?_
                                  cases t140 with
                                  | true =>
                                    replace hF := ifB_t hF
                                    refine W.cond_true (by kernel_rfl) (by kernel_rfl) ?_
                                    refine W.seqK (by kernel_rfl) (fun K123 n123 e123 r123 p123 => ?_)
                                    refine W.region (by kernel_rfl) ?_
                                    refine WL.val (d := (some 6)) (v := .bool false) (h' := h_120) (by kernel_rfl) (by kernel_rfl) (by kernel_rfl) ?_
                                    refine WL.nil (by kernel_rfl) ?_
                                    refine Go.weaken (l' := [(6, .bool false)]) (Fr.sub_cons (by kernel_rfl) (Fr.sub_nil _)) ?_
                                    refine n123 ?_
                                    refine W.ret (by kernel_rfl) ?_
                                    refine r114 ?_
                                    refine r47 ?_
                                    refine r46 ?_
                                    refine r40 ?_
                                    refine r36 ?_
                                    refine r34 ?_
                                    obtain ⟨hF, hF2⟩ := ret_inj hF; subst hF; subst hF2
                                    exact leave_of (rs := [.tmp 6]) (vs := [.bool false]) (by kernel_rfl) (res_tmp (by kernel_rfl) res_nil) (by kernel_rfl)
                                  | false =>
                                    replace hF := ifB_f hF
                                    refine W.cond_false (by kernel_rfl) (by kernel_rfl) ?_
                                    refine W.skip (by kernel_rfl) ?_
                                    refine n114 ?_
                                    refine W.seqK (by kernel_rfl) (fun K124 n124 e124 r124 p124 => ?_)
                                    refine W.seqK (by kernel_rfl) (fun K125 n125 e125 r125 p125 => ?_)
                                    refine W.region (by kernel_rfl) ?_
                                    refine WL.val (d := (some 141)) (v := strA t67) (h' := h_120) (by kernel_rfl) (by kernel_rfl) (by kernel_rfl) ?_
                                    refine WL.val (d := (some 142)) (v := .int .i64 (lenS t67)) (h' := h_120) (by kernel_rfl) (by kernel_rfl) (by kernel_rfl) ?_
                                    refine WL.val (d := (some 143)) (v := .int .i64 t13) (h' := h_120) (by kernel_rfl) (by kernel_rfl) (by kernel_rfl) ?_
                                    replace hF := lett_some hF; obtain ⟨t144, e126, hF⟩ := hF
                                    refine WL.val (d := (some 144)) (v := .bool t144) (h' := h_120) (by kernel_rfl) (by kernel_rfl) (val_of AV.bool e126 (by kernel_rfl)) ?_
                                    refine WL.val (d := (some 145)) (v := .bool t144) (h' := h_120) (by kernel_rfl) (by kernel_rfl) (by kernel_rfl) ?_
                                    replace hF := lett_some hF; obtain ⟨j152, e128, hF⟩ := hF
                                    have J129 : ∀ (t152 : Bool) (h_127 : AHeap), j152 t152 h_127 = some (rR, hR) → WL Try.prog w0 m0 (Func.ntmps Try.f5) (Code.ops (Code.p1 (Code.p1 (Code.p2 (Code.p2 (Code.p2 (Code.p2 (Code.p2 (Code.p2 (Code.p2 (Code.p2 (Code.p1 (Code.p1 (Code.p2 (Code.p1 (Code.p1 (Code.p2 (Code.p1 (Code.p2 (Code.p2 (Code.p2 (Code.p2 (Code.p2 (Code.p2 (Code.p2 (codeOf Try.f5)))))))))))))))))))))))))) 12 K125 [(0, .int .i64 t0), (1, t1), (2, t2), (7, strA t22), (9, r27), (11, .int .i64 t51), (12, .int .i64 t12), (14, strA t67), (15, .int .i64 t68), (152, .bool t152)] [] h_127 := by
                                      intro t152 h_127 hF
                                      rw [e128] at hF
                                      refine WL.nil (by kernel_rfl) ?_
                                      refine Go.weaken (l' := [(0, .int .i64 t0), (1, t1), (2, t2), (7, strA t22), (9, r27), (11, .int .i64 t51), (12, .int .i64 t12), (14, strA t67), (15, .int .i64 t68), (152, .bool t152)]) (Fr.sub_cons (by kernel_rfl) (Fr.sub_cons (by kernel_rfl) (Fr.sub_cons (by kernel_rfl) (Fr.sub_cons (by kernel_rfl) (Fr.sub_cons (by kernel_rfl) (Fr.sub_cons (by kernel_rfl) (Fr.sub_cons (by kernel_rfl) (Fr.sub_cons (by kernel_rfl) (Fr.sub_cons (by kernel_rfl) (Fr.sub_cons (by kernel_rfl) (Fr.sub_nil _))))))))))) ?_
                                      refine n125 ?_
                                      cases t152 with
                                      | true =>
                                        replace hF := ifB_t hF
                                        refine W.cond_true (by kernel_rfl) (by kernel_rfl) ?_
                                        refine W.seqK (by kernel_rfl) (fun K130 n130 e130 r130 p130 => ?_)
                                        refine W.region (by kernel_rfl) ?_
                                        refine WL.val (d := (some 6)) (v := .bool false) (h' := h_127) (by kernel_rfl) (by kernel_rfl) (by kernel_rfl) ?_
                                        refine WL.nil (by kernel_rfl) ?_
                                        refine Go.weaken (l' := [(6, .bool false)]) (Fr.sub_cons (by kernel_rfl) (Fr.sub_nil _)) ?_
                                        refine n130 ?_
                                        refine W.ret (by kernel_rfl) ?_
                                        refine r124 ?_
                                        refine r47 ?_
                                        refine r46 ?_
                                        refine r40 ?_
                                        refine r36 ?_
                                        refine r34 ?_
                                        obtain ⟨hF, hF2⟩ := ret_inj hF; subst hF; subst hF2
                                        exact leave_of (rs := [.tmp 6]) (vs := [.bool false]) (by kernel_rfl) (res_tmp (by kernel_rfl) res_nil) (by kernel_rfl)
                                      | false =>
                                        replace hF := ifB_f hF
                                        refine W.cond_false (by kernel_rfl) (by kernel_rfl) ?_
                                        refine W.skip (by kernel_rfl) ?_
                                        refine n124 ?_
                                        refine W.region (by kernel_rfl) ?_
                                        refine WL.val (d := (some 153)) (v := .int .i64 t68) (h' := h_127) (by kernel_rfl) (by kernel_rfl) (by kernel_rfl) ?_
                                        refine WL.val (d := (some 154)) (v := strA t67) (h' := h_127) (by kernel_rfl) (by kernel_rfl) (by kernel_rfl) ?_
                                        refine WL.val (d := (some 155)) (v := .int .i64 (lenS t67)) (h' := h_127) (by kernel_rfl) (by kernel_rfl) (by kernel_rfl) ?_
                                        replace hF := lett_some hF; obtain ⟨t156, e131, hF⟩ := hF
                                        refine WL.val (d := (some 156)) (v := .int .i64 t156) (h' := h_127) (by kernel_rfl) (by kernel_rfl) (val_of (AV.int .i64) e131 (by kernel_rfl)) ?_
                                        refine WL.val (d := (some 10)) (v := .int .i64 t156) (h' := h_127) (by kernel_rfl) (by kernel_rfl) (by kernel_rfl) ?_
                                        refine WL.nil (by kernel_rfl) ?_
                                        refine Go.weaken (l' := [(0, .int .i64 t0), (1, t1), (2, t2), (7, strA t22), (9, r27), (10, .int .i64 t156), (11, .int .i64 t51), (12, .int .i64 t12)]) (Fr.sub_cons (by kernel_rfl) (Fr.sub_cons (by kernel_rfl) (Fr.sub_cons (by kernel_rfl) (Fr.sub_cons (by kernel_rfl) (Fr.sub_cons (by kernel_rfl) (Fr.sub_cons (by kernel_rfl) (Fr.sub_cons (by kernel_rfl) (Fr.sub_cons (by kernel_rfl) (Fr.sub_nil _))))))))) ?_
                                        refine n47 ?_
                                        exact Go.weaken (Fr.sub_cons (by kernel_rfl) (Fr.sub_cons (by kernel_rfl) (Fr.sub_cons (by kernel_rfl) (Fr.sub_cons (by kernel_rfl) (Fr.sub_cons (by kernel_rfl) (Fr.sub_cons (by kernel_rfl) (Fr.sub_cons (by kernel_rfl) (Fr.sub_cons (by kernel_rfl) (Fr.sub_nil _))))))))) (J48 _ _ _ hF)
                                    cases t144 with
                                    | true =>
                                      replace hF := ifB_t hF
                                      refine WL.val (d := (some 146)) (v := .int .i64 t68) (h' := h_120) (by kernel_rfl) (by kernel_rfl) (by kernel_rfl) ?_
                                      refine WL.val (d := (some 147)) (v := strA t67) (h' := h_120) (by kernel_rfl) (by kernel_rfl) (by kernel_rfl) ?_
                                      refine WL.val (d := (some 148)) (v := .int .i64 (lenS t67)) (h' := h_120) (by kernel_rfl) (by kernel_rfl) (by kernel_rfl) ?_
                                      replace hF := lett_some hF; obtain ⟨t149, e132, hF⟩ := hF
                                      refine WL.val (d := (some 149)) (v := .int .i64 t149) (h' := h_120) (by kernel_rfl) (by kernel_rfl) (val_of (AV.int .i64) e132 (by kernel_rfl)) ?_
                                      refine WL.val (d := (some 150)) (v := .int .i64 t51) (h' := h_120) (by kernel_rfl) (by kernel_rfl) (by kernel_rfl) ?_
                                      replace hF := lett_some hF; obtain ⟨t151, e133, hF⟩ := hF
                                      refine WL.val (d := (some 151)) (v := .bool t151) (h' := h_120) (by kernel_rfl) (by kernel_rfl) (val_of AV.bool e133 (by kernel_rfl)) ?_
                                      refine WL.val (d := (some 152)) (v := .bool t151) (h' := h_120) (by kernel_rfl) (by kernel_rfl) (by kernel_rfl) ?_
                                      exact WL.weaken (Fr.sub_cons (by kernel_rfl) (Fr.sub_cons (by kernel_rfl) (Fr.sub_cons (by kernel_rfl) (Fr.sub_cons (by kernel_rfl) (Fr.sub_cons (by kernel_rfl) (Fr.sub_cons (by kernel_rfl) (Fr.sub_cons (by kernel_rfl) (Fr.sub_cons (by kernel_rfl) (Fr.sub_cons (by kernel_rfl) (Fr.sub_cons (by kernel_rfl) (Fr.sub_nil _))))))))))) (J129 _ _ hF)
                                    | false =>
                                      replace hF := ifB_f hF
                                      refine WL.not (d := (some 146)) (by kernel_rfl) (by kernel_rfl) ?_
                                      refine WL.not (d := (some 147)) (by kernel_rfl) (by kernel_rfl) ?_
                                      refine WL.not (d := (some 148)) (by kernel_rfl) (by kernel_rfl) ?_
                                      refine WL.not (d := (some 149)) (by kernel_rfl) (by kernel_rfl) ?_
                                      refine WL.not (d := (some 150)) (by kernel_rfl) (by kernel_rfl) ?_
                                      refine WL.not (d := (some 151)) (by kernel_rfl) (by kernel_rfl) ?_
                                      refine WL.val (d := (some 152)) (v := .bool false) (h' := h_120) (by kernel_rfl) (by kernel_rfl) (by kernel_rfl) ?_
                                      exact WL.weaken (Fr.sub_cons (by kernel_rfl) (Fr.sub_cons (by kernel_rfl) (Fr.sub_cons (by kernel_rfl) (Fr.sub_cons (by kernel_rfl) (Fr.sub_cons (by kernel_rfl) (Fr.sub_cons (by kernel_rfl) (Fr.sub_cons (by kernel_rfl) (Fr.sub_cons (by kernel_rfl) (Fr.sub_cons (by kernel_rfl) (Fr.sub_cons (by kernel_rfl) (Fr.sub_nil _))))))))))) (J129 _ _ hF)
                                cases t128 with
                                | true =>
                                  replace hF := ifB_t hF
                                  refine WL.not (d := (some 130)) (by kernel_rfl) (by kernel_rfl) ?_
                                  refine WL.not (d := (some 131)) (by kernel_rfl) (by kernel_rfl) ?_
                                  refine WL.not (d := (some 132)) (by kernel_rfl) (by kernel_rfl) ?_
                                  refine WL.not (d := (some 133)) (by kernel_rfl) (by kernel_rfl) ?_
                                  refine WL.not (d := (some 134)) (by kernel_rfl) (by kernel_rfl) ?_
                                  refine WL.not (d := (some 135)) (by kernel_rfl) (by kernel_rfl) ?_
                                  refine WL.not (d := (some 136)) (by kernel_rfl) (by kernel_rfl) ?_
                                  refine WL.not (d := (some 137)) (by kernel_rfl) (by kernel_rfl) ?_
                                  refine WL.not (d := (some 138)) (by kernel_rfl) (by kernel_rfl) ?_
                                  refine WL.not (d := (some 139)) (by kernel_rfl) (by kernel_rfl) ?_
                                  refine WL.val (d := (some 140)) (v := .bool true) (h' := h_117) (by kernel_rfl) (by kernel_rfl) (by kernel_rfl) ?_
                                  exact WL.weaken (Fr.sub_cons (by kernel_rfl) (Fr.sub_cons (by kernel_rfl) (Fr.sub_cons (by kernel_rfl) (Fr.sub_cons (by kernel_rfl) (Fr.sub_cons (by kernel_rfl) (Fr.sub_cons (by kernel_rfl) (Fr.sub_cons (by kernel_rfl) (Fr.sub_cons (by kernel_rfl) (Fr.sub_cons (by kernel_rfl) (Fr.sub_cons (by kernel_rfl) (Fr.sub_cons (by kernel_rfl) (Fr.sub_nil _)))))))))))) (J122 _ _ hF)
                                | false =>
                                  replace hF := ifB_f hF
                                  refine WL.val (d := (some 130)) (v := .int .i64 t68) (h' := h_117) (by kernel_rfl) (by kernel_rfl) (by kernel_rfl) ?_
                                  refine WL.val (d := (some 131)) (v := .int .i64 t10) (h' := h_117) (by kernel_rfl) (by kernel_rfl) (by kernel_rfl) ?_
                                  replace hF := lett_some hF; obtain ⟨t132, e134, hF⟩ := hF
                                  refine WL.val (d := (some 132)) (v := .bool t132) (h' := h_117) (by kernel_rfl) (by kernel_rfl) (val_of AV.bool e134 (by kernel_rfl)) ?_
                                  refine WL.val (d := (some 133)) (v := .bool t132) (h' := h_117) (by kernel_rfl) (by kernel_rfl) (by kernel_rfl) ?_
                                  replace hF := lett_some hF; obtain ⟨j139, e136, hF⟩ := hF
                                  have J137 : ∀ (t139 : Bool) (h_135 : AHeap), j139 t139 h_135 = some (rR, hR) → WL Try.prog w0 m0 (Func.ntmps Try.f5) (Code.ops (Code.p1 (Code.p1 (Code.p2 (Code.p2 (Code.p2 (Code.p2 (Code.p2 (Code.p2 (Code.p2 (Code.p1 (Code.p1 (Code.p2 (Code.p1 (Code.p1 (Code.p2 (Code.p1 (Code.p2 (Code.p2 (Code.p2 (Code.p2 (Code.p2 (Code.p2 (Code.p2 (codeOf Try.f5))))))))))))))))))))))))) 21 K115 [(0, .int .i64 t0), (1, t1), (2, t2), (7, strA t22), (9, r27), (11, .int .i64 t51), (12, .int .i64 t12), (13, .int .i64 t13), (14, strA t67), (15, .int .i64 t68), (129, .bool false), (139, .bool t139)] [] h_135 := by
                                    intro t139 h_135 hF
                                    rw [e136] at hF
                                    refine WL.val (d := (some 140)) (v := .bool t139) (h' := h_135) (by kernel_rfl) (by kernel_rfl) (by kernel_rfl) ?_
                                    exact WL.weaken (Fr.sub_cons (by kernel_rfl) (Fr.sub_cons (by kernel_rfl) (Fr.sub_cons (by kernel_rfl) (Fr.sub_cons (by kernel_rfl) (Fr.sub_cons (by kernel_rfl) (Fr.sub_cons (by kernel_rfl) (Fr.sub_cons (by kernel_rfl) (Fr.sub_cons (by kernel_rfl) (Fr.sub_cons (by kernel_rfl) (Fr.sub_cons (by kernel_rfl) (Fr.sub_cons (by kernel_rfl) (Fr.sub_nil _)))))))))))) (J122 _ _ hF)
                                  cases t132 with
                                  | true =>
                                    replace hF := ifB_t hF
                                    refine WL.val (d := (some 134)) (v := .int .i64 t51) (h' := h_117) (by kernel_rfl) (by kernel_rfl) (by kernel_rfl) ?_
                                    refine WL.val (d := (some 135)) (v := .int .i64 t10) (h' := h_117) (by kernel_rfl) (by kernel_rfl) (by kernel_rfl) ?_
                                    replace hF := lett_some hF; obtain ⟨t136, e138, hF⟩ := hF
                                    refine WL.val (d := (some 136)) (v := .int .i64 t136) (h' := h_117) (by kernel_rfl) (by kernel_rfl) (val_of (AV.int .i64) e138 (by kernel_rfl)) ?_
                                    refine WL.val (d := (some 137)) (v := .int .i64 t0) (h' := h_117) (by kernel_rfl) (by kernel_rfl) (by kernel_rfl) ?_
                                    replace hF := lett_some hF; obtain ⟨t138, e139, hF⟩ := hF
                                    refine WL.val (d := (some 138)) (v := .bool t138) (h' := h_117) (by kernel_rfl) (by kernel_rfl) (val_of AV.bool e139 (by kernel_rfl)) ?_
                                    refine WL.val (d := (some 139)) (v := .bool t138) (h' := h_117) (by kernel_rfl) (by kernel_rfl) (by kernel_rfl) ?_
                                    exact WL.weaken (Fr.sub_cons (by kernel_rfl) (Fr.sub_cons (by kernel_rfl) (Fr.sub_cons (by kernel_rfl) (Fr.sub_cons (by kernel_rfl) (Fr.sub_cons (by kernel_rfl) (Fr.sub_cons (by kernel_rfl) (Fr.sub_cons (by kernel_rfl) (Fr.sub_cons (by kernel_rfl) (Fr.sub_cons (by kernel_rfl) (Fr.sub_cons (by kernel_rfl) (Fr.sub_cons (by kernel_rfl) (Fr.sub_cons (by kernel_rfl) (Fr.sub_nil _))))))))))))) (J137 _ _ hF)
                                  | false =>
                                    replace hF := ifB_f hF
                                    refine WL.not (d := (some 134)) (by kernel_rfl) (by kernel_rfl) ?_
                                    refine WL.not (d := (some 135)) (by kernel_rfl) (by kernel_rfl) ?_
                                    refine WL.not (d := (some 136)) (by kernel_rfl) (by kernel_rfl) ?_
                                    refine WL.not (d := (some 137)) (by kernel_rfl) (by kernel_rfl) ?_
                                    refine WL.not (d := (some 138)) (by kernel_rfl) (by kernel_rfl) ?_
                                    refine WL.val (d := (some 139)) (v := .bool false) (h' := h_117) (by kernel_rfl) (by kernel_rfl) (by kernel_rfl) ?_
                                    exact WL.weaken (Fr.sub_cons (by kernel_rfl) (Fr.sub_cons (by kernel_rfl) (Fr.sub_cons (by kernel_rfl) (Fr.sub_cons (by kernel_rfl) (Fr.sub_cons (by kernel_rfl) (Fr.sub_cons (by kernel_rfl) (Fr.sub_cons (by kernel_rfl) (Fr.sub_cons (by kernel_rfl) (Fr.sub_cons (by kernel_rfl) (Fr.sub_cons (by kernel_rfl) (Fr.sub_cons (by kernel_rfl) (Fr.sub_cons (by kernel_rfl) (Fr.sub_nil _))))))))))))) (J137 _ _ hF)
                              cases t121 with
                              | true =>
                                replace hF := ifB_t hF
                                refine WL.val (d := (some 123)) (v := .int .i64 t68) (h' := h_110) (by kernel_rfl) (by kernel_rfl) (by kernel_rfl) ?_
                                refine WL.val (d := (some 124)) (v := .int .i64 t51) (h' := h_110) (by kernel_rfl) (by kernel_rfl) (by kernel_rfl) ?_
                                refine WL.val (d := (some 125)) (v := .int .i64 t0) (h' := h_110) (by kernel_rfl) (by kernel_rfl) (by kernel_rfl) ?_
                                replace hF := lett_some hF; obtain ⟨t126, e140, hF⟩ := hF
                                refine WL.val (d := (some 126)) (v := .int .i64 t126) (h' := h_110) (by kernel_rfl) (by kernel_rfl) (val_of (AV.int .i64) e140 (by kernel_rfl)) ?_
                                replace hF := lett_some hF; obtain ⟨t127, e141, hF⟩ := hF
                                refine WL.val (d := (some 127)) (v := .bool t127) (h' := h_110) (by kernel_rfl) (by kernel_rfl) (val_of AV.bool e141 (by kernel_rfl)) ?_
                                refine WL.val (d := (some 128)) (v := .bool t127) (h' := h_110) (by kernel_rfl) (by kernel_rfl) (by kernel_rfl) ?_
                                exact WL.weaken (Fr.sub_cons (by kernel_rfl) (Fr.sub_cons (by kernel_rfl) (Fr.sub_cons (by kernel_rfl) (Fr.sub_cons (by kernel_rfl) (Fr.sub_cons (by kernel_rfl) (Fr.sub_cons (by kernel_rfl) (Fr.sub_cons (by kernel_rfl) (Fr.sub_cons (by kernel_rfl) (Fr.sub_cons (by kernel_rfl) (Fr.sub_cons (by kernel_rfl) (Fr.sub_cons (by kernel_rfl) (Fr.sub_cons (by kernel_rfl) (Fr.sub_nil _))))))))))))) (J119 _ _ hF)
                              | false =>
                                replace hF := ifB_f hF
                                refine WL.not (d := (some 123)) (by kernel_rfl) (by kernel_rfl) ?_
                                refine WL.not (d := (some 124)) (by kernel_rfl) (by kernel_rfl) ?_
                                refine WL.not (d := (some 125)) (by kernel_rfl) (by kernel_rfl) ?_
                                refine WL.not (d := (some 126)) (by kernel_rfl) (by kernel_rfl) ?_
                                refine WL.not (d := (some 127)) (by kernel_rfl) (by kernel_rfl) ?_
                                refine WL.val (d := (some 128)) (v := .bool false) (h' := h_110) (by kernel_rfl) (by kernel_rfl) (by kernel_rfl) ?_
                                exact WL.weaken (Fr.sub_cons (by kernel_rfl) (Fr.sub_cons (by kernel_rfl) (Fr.sub_cons (by kernel_rfl) (Fr.sub_cons (by kernel_rfl) (Fr.sub_cons (by kernel_rfl) (Fr.sub_cons (by kernel_rfl) (Fr.sub_cons (by kernel_rfl) (Fr.sub_cons (by kernel_rfl) (Fr.sub_cons (by kernel_rfl) (Fr.sub_cons (by kernel_rfl) (Fr.sub_cons (by kernel_rfl) (Fr.sub_cons (by kernel_rfl) (Fr.sub_nil _))))))))))))) (J119 _ _ hF)
                          cases t112 with
                          | true =>
                            replace hF := ifB_t hF
                            refine WL.not (d := (some 114)) (by kernel_rfl) (by kernel_rfl) ?_
                            refine WL.not (d := (some 115)) (by kernel_rfl) (by kernel_rfl) ?_
                            refine WL.not (d := (some 116)) (by kernel_rfl) (by kernel_rfl) ?_
                            refine WL.not (d := (some 117)) (by kernel_rfl) (by kernel_rfl) ?_
                            refine WL.val (d := (some 118)) (v := .bool true) (h' := h_107) (by kernel_rfl) (by kernel_rfl) (by kernel_rfl) ?_
                            exact WL.weaken (Fr.sub_cons (by kernel_rfl) (Fr.sub_cons (by kernel_rfl) (Fr.sub_cons (by kernel_rfl) (Fr.sub_cons (by kernel_rfl) (Fr.sub_cons (by kernel_rfl) (Fr.sub_cons (by kernel_rfl) (Fr.sub_cons (by kernel_rfl) (Fr.sub_cons (by kernel_rfl) (Fr.sub_cons (by kernel_rfl) (Fr.sub_cons (by kernel_rfl) (Fr.sub_cons (by kernel_rfl) (Fr.sub_cons (by kernel_rfl) (Fr.sub_nil _))))))))))))) (J112 _ _ hF)
                          | false =>
                            replace hF := ifB_f hF
                            refine WL.val (d := (some 114)) (v := strA t67) (h' := h_107) (by kernel_rfl) (by kernel_rfl) (by kernel_rfl) ?_
                            refine WL.val (d := (some 115)) (v := .int .i64 (lenS t67)) (h' := h_107) (by kernel_rfl) (by kernel_rfl) (by kernel_rfl) ?_
                            refine WL.val (d := (some 116)) (v := .int .i64 t13) (h' := h_107) (by kernel_rfl) (by kernel_rfl) (by kernel_rfl) ?_
                            replace hF := lett_some hF; obtain ⟨t117, e142, hF⟩ := hF
                            refine WL.val (d := (some 117)) (v := .bool t117) (h' := h_107) (by kernel_rfl) (by kernel_rfl) (val_of AV.bool e142 (by kernel_rfl)) ?_
                            refine WL.val (d := (some 118)) (v := .bool t117) (h' := h_107) (by kernel_rfl) (by kernel_rfl) (by kernel_rfl) ?_
                            exact WL.weaken (Fr.sub_cons (by kernel_rfl) (Fr.sub_cons (by kernel_rfl) (Fr.sub_cons (by kernel_rfl) (Fr.sub_cons (by kernel_rfl) (Fr.sub_cons (by kernel_rfl) (Fr.sub_cons (by kernel_rfl) (Fr.sub_cons (by kernel_rfl) (Fr.sub_cons (by kernel_rfl) (Fr.sub_cons (by kernel_rfl) (Fr.sub_cons (by kernel_rfl) (Fr.sub_cons (by kernel_rfl) (Fr.sub_cons (by kernel_rfl) (Fr.sub_nil _))))))))))))) (J112 _ _ hF)
                        cases t101 with
                        | true =>
                          replace hF := ifB_t hF
                          refine WL.not (d := (some 103)) (by kernel_rfl) (by kernel_rfl) ?_
                          refine WL.not (d := (some 104)) (by kernel_rfl) (by kernel_rfl) ?_
                          refine WL.not (d := (some 105)) (by kernel_rfl) (by kernel_rfl) ?_
                          refine WL.not (d := (some 106)) (by kernel_rfl) (by kernel_rfl) ?_
                          refine WL.not (d := (some 107)) (by kernel_rfl) (by kernel_rfl) ?_
                          refine WL.not (d := (some 108)) (by kernel_rfl) (by kernel_rfl) ?_
                          refine WL.not (d := (some 109)) (by kernel_rfl) (by kernel_rfl) ?_
                          refine WL.not (d := (some 110)) (by kernel_rfl) (by kernel_rfl) ?_
                          refine WL.not (d := (some 111)) (by kernel_rfl) (by kernel_rfl) ?_
                          refine WL.val (d := (some 112)) (v := .bool true) (h' := h_104) (by kernel_rfl) (by kernel_rfl) (by kernel_rfl) ?_
                          exact WL.weaken (Fr.sub_cons (by kernel_rfl) (Fr.sub_cons (by kernel_rfl) (Fr.sub_cons (by kernel_rfl) (Fr.sub_cons (by kernel_rfl) (Fr.sub_cons (by kernel_rfl) (Fr.sub_cons (by kernel_rfl) (Fr.sub_cons (by kernel_rfl) (Fr.sub_cons (by kernel_rfl) (Fr.sub_cons (by kernel_rfl) (Fr.sub_cons (by kernel_rfl) (Fr.sub_cons (by kernel_rfl) (Fr.sub_cons (by kernel_rfl) (Fr.sub_nil _))))))))))))) (J109 _ _ hF)
                        | false =>
                          replace hF := ifB_f hF
                          refine WL.val (d := (some 103)) (v := strA t22) (h' := h_104) (by kernel_rfl) (by kernel_rfl) (by kernel_rfl) ?_
                          refine WL.val (d := (some 104)) (v := .int .i64 t68) (h' := h_104) (by kernel_rfl) (by kernel_rfl) (by kernel_rfl) ?_
                          refine WL.val (d := (some 105)) (v := .int .i64 t68) (h' := h_104) (by kernel_rfl) (by kernel_rfl) (by kernel_rfl) ?_
                          refine WL.val (d := (some 106)) (v := strA t67) (h' := h_104) (by kernel_rfl) (by kernel_rfl) (by kernel_rfl) ?_
                          refine WL.val (d := (some 107)) (v := .int .i64 (lenS t67)) (h' := h_104) (by kernel_rfl) (by kernel_rfl) (by kernel_rfl) ?_
                          replace hF := lett_some hF; obtain ⟨t108, e143, hF⟩ := hF
                          refine WL.val (d := (some 108)) (v := .int .i64 t108) (h' := h_104) (by kernel_rfl) (by kernel_rfl) (val_of (AV.int .i64) e143 (by kernel_rfl)) ?_
                          replace hF := obind_some hF; obtain ⟨t109, e144, hF⟩ := hF
                          refine WL.val (d := (some 109)) (v := strA t109) (h' := h_104) (by kernel_rfl) (by kernel_rfl) (Eq.trans (by kernel_rfl) (slice_str (P := Try.prog) (h := h_104) (t := 9) (A := (some (.int .i64 t68))) (B := (some (.int .i64 t108))) (by kernel_rfl) (.inl ⟨_, rfl⟩) (.inl ⟨_, rfl⟩) e144)) ?_
                          refine WL.val (d := (some 110)) (v := strA t67) (h' := h_104) (by kernel_rfl) (by kernel_rfl) (by kernel_rfl) ?_
                          replace hF := lett_some hF; obtain ⟨t111, e145, hF⟩ := hF
                          refine WL.val (d := (some 111)) (v := .bool t111) (h' := h_104) (by kernel_rfl) (by kernel_rfl) (val_of AV.bool e145 (by kernel_rfl)) ?_
                          refine WL.val (d := (some 112)) (v := .bool t111) (h' := h_104) (by kernel_rfl) (by kernel_rfl) (by kernel_rfl) ?_
                          exact WL.weaken (Fr.sub_cons (by kernel_rfl) (Fr.sub_cons (by kernel_rfl) (Fr.sub_cons (by kernel_rfl) (Fr.sub_cons (by kernel_rfl) (Fr.sub_cons (by kernel_rfl) (Fr.sub_cons (by kernel_rfl) (Fr.sub_cons (by kernel_rfl) (Fr.sub_cons (by kernel_rfl) (Fr.sub_cons (by kernel_rfl) (Fr.sub_cons (by kernel_rfl) (Fr.sub_cons (by kernel_rfl) (Fr.sub_cons (by kernel_rfl) (Fr.sub_nil _))))))))))))) (J109 _ _ hF)
                      cases t93 with
                      | true =>
                        replace hF := ifB_t hF
                        refine WL.not (d := (some 95)) (by kernel_rfl) (by kernel_rfl) ?_
                        refine WL.not (d := (some 96)) (by kernel_rfl) (by kernel_rfl) ?_
                        refine WL.not (d := (some 97)) (by kernel_rfl) (by kernel_rfl) ?_
                        refine WL.not (d := (some 98)) (by kernel_rfl) (by kernel_rfl) ?_
                        refine WL.not (d := (some 99)) (by kernel_rfl) (by kernel_rfl) ?_
                        refine WL.not (d := (some 100)) (by kernel_rfl) (by kernel_rfl) ?_
                        refine WL.val (d := (some 101)) (v := .bool true) (h' := h_101) (by kernel_rfl) (by kernel_rfl) (by kernel_rfl) ?_
                        exact WL.weaken (Fr.sub_cons (by kernel_rfl) (Fr.sub_cons (by kernel_rfl) (Fr.sub_cons (by kernel_rfl) (Fr.sub_cons (by kernel_rfl) (Fr.sub_cons (by kernel_rfl) (Fr.sub_cons (by kernel_rfl) (Fr.sub_cons (by kernel_rfl) (Fr.sub_cons (by kernel_rfl) (Fr.sub_cons (by kernel_rfl) (Fr.sub_cons (by kernel_rfl) (Fr.sub_cons (by kernel_rfl) (Fr.sub_cons (by kernel_rfl) (Fr.sub_nil _))))))))))))) (J106 _ _ hF)
                      | false =>
                        replace hF := ifB_f hF
                        refine WL.val (d := (some 95)) (v := .int .i64 t68) (h' := h_101) (by kernel_rfl) (by kernel_rfl) (by kernel_rfl) ?_
                        refine WL.val (d := (some 96)) (v := strA t67) (h' := h_101) (by kernel_rfl) (by kernel_rfl) (by kernel_rfl) ?_
                        refine WL.val (d := (some 97)) (v := .int .i64 (lenS t67)) (h' := h_101) (by kernel_rfl) (by kernel_rfl) (by kernel_rfl) ?_
                        replace hF := lett_some hF; obtain ⟨t98, e146, hF⟩ := hF
                        refine WL.val (d := (some 98)) (v := .int .i64 t98) (h' := h_101) (by kernel_rfl) (by kernel_rfl) (val_of (AV.int .i64) e146 (by kernel_rfl)) ?_
                        refine WL.val (d := (some 99)) (v := .int .i64 t51) (h' := h_101) (by kernel_rfl) (by kernel_rfl) (by kernel_rfl) ?_
                        replace hF := lett_some hF; obtain ⟨t100, e147, hF⟩ := hF
                        refine WL.val (d := (some 100)) (v := .bool t100) (h' := h_101) (by kernel_rfl) (by kernel_rfl) (val_of AV.bool e147 (by kernel_rfl)) ?_
                        refine WL.val (d := (some 101)) (v := .bool t100) (h' := h_101) (by kernel_rfl) (by kernel_rfl) (by kernel_rfl) ?_
                        exact WL.weaken (Fr.sub_cons (by kernel_rfl) (Fr.sub_cons (by kernel_rfl) (Fr.sub_cons (by kernel_rfl) (Fr.sub_cons (by kernel_rfl) (Fr.sub_cons (by kernel_rfl) (Fr.sub_cons (by kernel_rfl) (Fr.sub_cons (by kernel_rfl) (Fr.sub_cons (by kernel_rfl) (Fr.sub_cons (by kernel_rfl) (Fr.sub_cons (by kernel_rfl) (Fr.sub_cons (by kernel_rfl) (Fr.sub_cons (by kernel_rfl) (Fr.sub_nil _))))))))))))) (J106 _ _ hF)
                    cases t88 with
                    | true =>
                      replace hF := ifB_t hF
                      refine WL.not (d := (some 90)) (by kernel_rfl) (by kernel_rfl) ?_
                      refine WL.not (d := (some 91)) (by kernel_rfl) (by kernel_rfl) ?_
                      refine WL.not (d := (some 92)) (by kernel_rfl) (by kernel_rfl) ?_
                      refine WL.val (d := (some 93)) (v := .bool true) (h' := h_98) (by kernel_rfl) (by kernel_rfl) (by kernel_rfl) ?_
                      exact WL.weaken (Fr.sub_cons (by kernel_rfl) (Fr.sub_cons (by kernel_rfl) (Fr.sub_cons (by kernel_rfl) (Fr.sub_cons (by kernel_rfl) (Fr.sub_cons (by kernel_rfl) (Fr.sub_cons (by kernel_rfl) (Fr.sub_cons (by kernel_rfl) (Fr.sub_cons (by kernel_rfl) (Fr.sub_cons (by kernel_rfl) (Fr.sub_cons (by kernel_rfl) (Fr.sub_cons (by kernel_rfl) (Fr.sub_cons (by kernel_rfl) (Fr.sub_nil _))))))))))))) (J103 _ _ hF)
                    | false =>
                      replace hF := ifB_f hF
                      refine WL.val (d := (some 90)) (v := .int .i64 t68) (h' := h_98) (by kernel_rfl) (by kernel_rfl) (by kernel_rfl) ?_
                      refine WL.val (d := (some 91)) (v := .int .i64 t51) (h' := h_98) (by kernel_rfl) (by kernel_rfl) (by kernel_rfl) ?_
                      replace hF := lett_some hF; obtain ⟨t92, e148, hF⟩ := hF
                      refine WL.val (d := (some 92)) (v := .bool t92) (h' := h_98) (by kernel_rfl) (by kernel_rfl) (val_of AV.bool e148 (by kernel_rfl)) ?_
                      refine WL.val (d := (some 93)) (v := .bool t92) (h' := h_98) (by kernel_rfl) (by kernel_rfl) (by kernel_rfl) ?_
                      exact WL.weaken (Fr.sub_cons (by kernel_rfl) (Fr.sub_cons (by kernel_rfl) (Fr.sub_cons (by kernel_rfl) (Fr.sub_cons (by kernel_rfl) (Fr.sub_cons (by kernel_rfl) (Fr.sub_cons (by kernel_rfl) (Fr.sub_cons (by kernel_rfl) (Fr.sub_cons (by kernel_rfl) (Fr.sub_cons (by kernel_rfl) (Fr.sub_cons (by kernel_rfl) (Fr.sub_cons (by kernel_rfl) (Fr.sub_cons (by kernel_rfl) (Fr.sub_nil _))))))))))))) (J103 _ _ hF)
                  cases t83 with
                  | true =>
                    replace hF := ifB_t hF
                    refine WL.not (d := (some 85)) (by kernel_rfl) (by kernel_rfl) ?_
                    refine WL.not (d := (some 86)) (by kernel_rfl) (by kernel_rfl) ?_
                    refine WL.not (d := (some 87)) (by kernel_rfl) (by kernel_rfl) ?_
                    refine WL.val (d := (some 88)) (v := .bool true) (h' := h_72) (by kernel_rfl) (by kernel_rfl) (by kernel_rfl) ?_
                    exact WL.weaken (Fr.sub_cons (by kernel_rfl) (Fr.sub_cons (by kernel_rfl) (Fr.sub_cons (by kernel_rfl) (Fr.sub_cons (by kernel_rfl) (Fr.sub_cons (by kernel_rfl) (Fr.sub_cons (by kernel_rfl) (Fr.sub_cons (by kernel_rfl) (Fr.sub_cons (by kernel_rfl) (Fr.sub_cons (by kernel_rfl) (Fr.sub_cons (by kernel_rfl) (Fr.sub_cons (by kernel_rfl) (Fr.sub_cons (by kernel_rfl) (Fr.sub_nil _))))))))))))) (J100 _ _ hF)
                  | false =>
                    replace hF := ifB_f hF
                    refine WL.val (d := (some 85)) (v := .int .i64 t68) (h' := h_72) (by kernel_rfl) (by kernel_rfl) (by kernel_rfl) ?_
                    refine WL.val (d := (some 86)) (v := .int .i64 t10) (h' := h_72) (by kernel_rfl) (by kernel_rfl) (by kernel_rfl) ?_
                    replace hF := lett_some hF; obtain ⟨t87, e149, hF⟩ := hF
                    refine WL.val (d := (some 87)) (v := .bool t87) (h' := h_72) (by kernel_rfl) (by kernel_rfl) (val_of AV.bool e149 (by kernel_rfl)) ?_
                    refine WL.val (d := (some 88)) (v := .bool t87) (h' := h_72) (by kernel_rfl) (by kernel_rfl) (by kernel_rfl) ?_
                    exact WL.weaken (Fr.sub_cons (by kernel_rfl) (Fr.sub_cons (by kernel_rfl) (Fr.sub_cons (by kernel_rfl) (Fr.sub_cons (by kernel_rfl) (Fr.sub_cons (by kernel_rfl) (Fr.sub_cons (by kernel_rfl) (Fr.sub_cons (by kernel_rfl) (Fr.sub_cons (by kernel_rfl) (Fr.sub_cons (by kernel_rfl) (Fr.sub_cons (by kernel_rfl) (Fr.sub_cons (by kernel_rfl) (Fr.sub_cons (by kernel_rfl) (Fr.sub_nil _))))))))))))) (J100 _ _ hF)
              cases t54 with
              | true =>
                replace hF := ifB_t hF
                refine W.cond_true (by kernel_rfl) (by kernel_rfl) ?_
                refine W.region (by kernel_rfl) ?_
                refine WL.val (d := (some 55)) (v := t2) (h' := h_57) (by kernel_rfl) (by kernel_rfl) (by kernel_rfl) ?_
                refine WL.val (d := (some 56)) (v := .int .i64 t12) (h' := h_57) (by kernel_rfl) (by kernel_rfl) (by kernel_rfl) ?_
                refine WL.val (d := (some 57)) (v := t2) (h' := h_57) (by kernel_rfl) (by kernel_rfl) (by kernel_rfl) ?_
                replace hF := obind_some hF; obtain ⟨t58, e150, hF⟩ := hF
                refine WL.val (d := (some 58)) (v := .int .i64 t58) (h' := h_57) (by kernel_rfl) (by kernel_rfl) (Eq.trans (by kernel_rfl) (len_row (P := Try.prog) (h := h_57) (t := 39) (e' := 3) (by kernel_rfl) e150)) ?_
                replace hF := obind_some hF; obtain ⟨t59, e151, hF⟩ := hF
                refine WL.val (d := (some 59)) (v := .int .i64 t59) (h' := h_57) (by kernel_rfl) (by kernel_rfl) (Eq.trans (by kernel_rfl) (rem_int (P := Try.prog) (h := h_57) (t := 3) (lit := false) e151)) ?_
                replace hF := obind_some hF; obtain ⟨t60, e152, hF⟩ := hF
                refine WL.val (d := (some 60)) (v := t60) (h' := h_57) (by kernel_rfl) (by kernel_rfl) (Eq.trans (by kernel_rfl) (index_row (P := Try.prog) (h := h_57) (t := 39) (e' := 3) (k := .i64) (by kernel_rfl) (by kernel_rfl) (by kernel_rfl) e152)) ?_
                replace hF := obind_some hF; obtain ⟨v61, e153, hF⟩ := hF
                replace hF := obind_some hF; obtain ⟨t61, c154, hF⟩ := hF
                have c154 := avInt_some c154
                subst c154
                refine WL.val (d := (some 61)) (v := .int .i64 t61) (h' := h_57) (by kernel_rfl) (by kernel_rfl) (Eq.trans (by kernel_rfl) (load_cell (P := Try.prog) (h := h_57) (t := 3) (by kernel_rfl) e153)) ?_
                refine WL.val (d := (some 13)) (v := .int .i64 t61) (h' := h_57) (by kernel_rfl) (by kernel_rfl) (by kernel_rfl) ?_
                refine WL.nil (by kernel_rfl) ?_
                refine Go.weaken (l' := [(0, .int .i64 t0), (1, t1), (2, t2), (7, strA t22), (9, r27), (10, .int .i64 t10), (11, .int .i64 t51), (12, .int .i64 t12), (13, .int .i64 t61)]) (Fr.sub_cons (by kernel_rfl) (Fr.sub_cons (by kernel_rfl) (Fr.sub_cons (by kernel_rfl) (Fr.sub_cons (by kernel_rfl) (Fr.sub_cons (by kernel_rfl) (Fr.sub_cons (by kernel_rfl) (Fr.sub_cons (by kernel_rfl) (Fr.sub_cons (by kernel_rfl) (Fr.sub_cons (by kernel_rfl) (Fr.sub_nil _)))))))))) ?_
                exact Go.weaken (Fr.sub_cons (by kernel_rfl) (Fr.sub_cons (by kernel_rfl) (Fr.sub_cons (by kernel_rfl) (Fr.sub_cons (by kernel_rfl) (Fr.sub_cons (by kernel_rfl) (Fr.sub_cons (by kernel_rfl) (Fr.sub_cons (by kernel_rfl) (Fr.sub_cons (by kernel_rfl) (Fr.sub_cons (by kernel_rfl) (Fr.sub_nil _)))))))))) (J69 _ _ hF)
              | false =>
                replace hF := ifB_f hF
                refine W.cond_false (by kernel_rfl) (by kernel_rfl) ?_
                refine W.skip (by kernel_rfl) ?_
                exact Go.weaken (Fr.sub_cons (by kernel_rfl) (Fr.sub_cons (by kernel_rfl) (Fr.sub_cons (by kernel_rfl) (Fr.sub_cons (by kernel_rfl) (Fr.sub_cons (by kernel_rfl) (Fr.sub_cons (by kernel_rfl) (Fr.sub_cons (by kernel_rfl) (Fr.sub_cons (by kernel_rfl) (Fr.sub_cons (by kernel_rfl) (Fr.sub_nil _)))))))))) (J69 _ _ hF)
            | false =>
              replace hF := ifB_f hF
              refine W.cond_false (by kernel_rfl) (by kernel_rfl) ?_
              refine W.exit (by kernel_rfl) ?_
              refine e42 ?_
              refine e40 ?_
              refine s36 (by kernel_rfl) ?_
              exact Go.weaken (Fr.sub_nil _) (J37 _ hF)
        exact Go.weaken (Fr.sub_cons (by kernel_rfl) (Fr.sub_cons (by kernel_rfl) (Fr.sub_cons (by kernel_rfl) (Fr.sub_cons (by kernel_rfl) (Fr.sub_cons (by kernel_rfl) (Fr.sub_cons (by kernel_rfl) (Fr.sub_cons (by kernel_rfl) (Fr.sub_cons (by kernel_rfl) (Fr.sub_nil _))))))))) (L40 _ _ _ _ _ hF)
noncomputable def law21_RingReads_fn (call : CallF) (n : Nat) : FnT := fun args h => match args with
  | [x0, x1, x2] => obind (avInt .i64 x0) fun t0 => law21_RingReads call n t0 x1 x2 h
  | _ => none
set_option maxRecDepth 100000 in
theorem law21_RingReads_fn_eq (call : CallF) (n : Nat) (t0 : Int) (t1 : AV) (t2 : AV) (h : AHeap) : law21_RingReads_fn call n [.int .i64 t0, t1, t2] h = law21_RingReads call n t0 t1 t2 h :=
  (Eq.trans (obind_eq (fun t0 => law21_RingReads call n t0 t1 t2 h) (avInt_int .i64 t0)) rfl)
theorem law21_RingReads_holds {call : CallF} (hc : SaysAll Try.prog call) (n : Nat) : Holds Try.prog 5 (law21_RingReads_fn call n) := by
  intro args h r h2 e
  unfold law21_RingReads_fn at e
  split at e
  · replace e := obind_some e; obtain ⟨t0, c0, e⟩ := e; have c0 := avInt_some c0; subst c0
    exact law21_RingReads_ok hc e
  · cases e

end Go.Proofs.Ytbihkjbhmiemhaa
