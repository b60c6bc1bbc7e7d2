/- Plain functions in place of the program's, and that their calls come to what they say. -/
import Derived.Test.YtmibgiblejpgdaaFrame
import Derived.Test.YtmibgiblejpgdaaAbs50
namespace Go.Proofs.Ytmibgiblejpgdaa
open Go.RowKit Abs

noncomputable def message_Decode (call : CallF) (_ : Nat) (t0 : Bytes) (h : AHeap) : R :=
  lett (newH h 30 [.int .u8 0, .int .i64 0, .int .i64 0, .int .i64 0, .int .i64 0, .int .i64 0, .int .i64 0, .int .i64 0, .bool false, .nsl, .int .i64 0, .int .i64 0, .str 0 0, .int .i64 0, .int .i64 0, .int .i64 0, .int .i64 0, .int .i64 0, .int .i64 0, .int .u8 0, .int .i64 0, .int .i64 0]) fun h_2 =>
  lett (newH h_2 33 [.int .i64 0, .int .i64 0]) fun h_4 =>
  callN (call 29 [strA t0] h_4) fun r9 h_7 =>
  callN (call 30 [r9] h_7) fun r12 h_10 =>
  obind (extT 0 r12) fun v13 =>
  obind (avAgg v13) fun t13 =>
  obind (extT 1 r12) fun v14 =>
  obind (avInt .i64 v14) fun t14 =>
  lett (newH h_10 30 [.int .u8 0, .int .i64 0, .int .i64 0, .int .i64 0, .int .i64 0, .int .i64 0, .int .i64 0, .int .i64 0, .bool false, .nsl, .int .i64 0, .int .i64 0, .str 0 0, .int .i64 0, .int .i64 0, .int .i64 0, .int .i64 0, .int .i64 0, .int .i64 0, .int .u8 0, .int .i64 0, .int .i64 0]) fun h_16 =>
  obind (stRow h_16 22 t13 (newP h_10)) fun h_18 =>
  callN (call 31 [r9] h_18) fun r16 h_22 =>
  obind (avAgg r16) fun t16 =>
  lett (newH h_22 33 [.int .i64 0, .int .i64 0]) fun h_25 =>
  obind (stRow h_25 2 t16 (newP h_22)) fun h_27 =>
  obind (ldCell h_27 (AV.ptr (AHeap.next h_22) 0)) fun v18 =>
  obind (avInt .i64 v18) fun t18 =>
  lett ((t18 : Int) != 0) fun (t19 : Bool) =>
  ifB t19
  (
    obind (ldRow h_27 2 (newP h_22)) fun t21 =>
    obind (stRow h_27 22 ([.int .u8 0, .int .i64 0, .int .i64 0, .int .i64 0, .int .i64 0, .int .i64 0, .int .i64 0, .int .i64 0, .bool false, .nsl, .int .i64 0, .int .i64 0, .str 0 0, .int .i64 0, .int .i64 0, .int .i64 0, .int .i64 0, .int .i64 0, .int .i64 0, .int .u8 0, .int .i64 0, .int .i64 0] : List AV) (newP h)) fun h_35 =>
    chk (reLoad Try.prog h_35 33 (newP h_22) (.agg t21) && true) <|
    obind (stRow h_35 2 t21 (newP h_2)) fun h_38 =>
    obind (ldRow h_38 22 (newP h)) fun w2 =>
    obind (ldRow h_38 2 (newP h_2)) fun w3 =>
    some (.ret (.tup [.agg w2, .agg w3]), h_38))
  (
    obind (ldCell h_27 (AV.ptr (AHeap.next h_10) 9)) fun v24 =>
    obind (lenL v24) fun t25 =>
    lett (decide (t14 > t25)) fun (t26 : Bool) =>
    lett (fun (t31 : Bool) (h_47 : AHeap) =>
      ifB t31
      (
        obind (stRow h_47 22 ([.int .u8 0, .int .i64 0, .int .i64 0, .int .i64 0, .int .i64 0, .int .i64 0, .int .i64 0, .int .i64 0, .bool false, .nsl, .int .i64 0, .int .i64 0, .str 0 0, .int .i64 0, .int .i64 0, .int .i64 0, .int .i64 0, .int .i64 0, .int .i64 0, .int .u8 0, .int .i64 0, .int .i64 0] : List AV) (newP h)) fun h_51 =>
        obind (stRow h_51 2 ([.int .i64 7, .int .i64 0] : List AV) (newP h_2)) fun h_53 =>
        obind (ldRow h_53 22 (newP h)) fun w2_56 =>
        obind (ldRow h_53 2 (newP h_2)) fun w3_58 =>
        some (.ret (.tup [.agg w2_56, .agg w3_58]), h_53))
      (
        obind (ldRow h_47 22 (newP h_10)) fun t34 =>
        obind (stRow h_47 22 t34 (newP h)) fun h_61 =>
        obind (stRow h_61 2 ([.int .i64 0, .int .i64 0] : List AV) (newP h_2)) fun h_63 =>
        obind (ldRow h_63 22 (newP h)) fun w2_66 =>
        obind (ldRow h_63 2 (newP h_2)) fun w3_68 =>
        some (.ret (.tup [.agg w2_66, .agg w3_68]), h_63))) fun j31 =>
    ifB t26
    (
      j31 true h_27)
    (
      obind (ldRow h_27 22 (newP h_10)) fun t28 =>
      callN (call 12 [.agg t28] h_27) fun r29 h_70 =>
      obind (avInt .i64 r29) fun t29 =>
      lett ((t29 : Int) != 0) fun (t30 : Bool) =>
      j31 t30 h_70))
set_option maxHeartbeats 4000000 in
set_option maxRecDepth 20000 in
theorem message_Decode_ok {call : CallF} (hc : SaysAll Try.prog call) {n : Nat} {t0 : Bytes} {h : AHeap} {rR : ARes} {hR : AHeap} (hF : message_Decode call n t0 h = some (rR, hR)) : Says Try.prog 11 [strA t0] h rR hR := by
  unfold message_Decode at hF
  refine says_of (fn := Try.f11) Try.func11 (c := codeOf Try.f11) (by kernel_rfl) (by kernel_rfl) (fun w0 m0 => ?_)
  refine W.weaken (l' := [(0, strA t0)]) (Fr.c Fr.n) ?_
  refine W.s (fun K1 n1 e1 q1 p1 => ?_)
  refine W.r ?_
  replace hF := lett_some hF; obtain ⟨h_2, e3, hF⟩ := hF
  refine WL.val (d := (some 2)) (v := (newP h)) (h' := h_2) (by kernel_rfl) (by kernel_rfl) (val_ofH e3 (by kernel_rfl)) ?_
  replace hF := lett_some hF; obtain ⟨h_4, e5, hF⟩ := hF
  refine WL.val (d := (some 3)) (v := (newP h_2)) (h' := h_4) (by kernel_rfl) (by kernel_rfl) (val_ofH e5 (by kernel_rfl)) ?_
  refine WL.n ?_
  refine Go.weaken (l' := [(0, strA t0), (2, (newP h)), (3, (newP h_2))]) (Fr.c (Fr.c (Fr.c Fr.n))) ?_
  refine n1 ?_
  refine W.s (fun K6 n6 e6 q6 p6 => ?_)
  refine W.r ?_
  refine WL.a (some 8) (strA t0) h_4 ?_
  replace hF := callN_some hF; obtain ⟨r9, h_7, e8, hF⟩ := hF
  refine WL.c (hc.ok w0) (some 9) e8 ?_
  refine WL.a (some 4) r9 h_7 ?_
  refine WL.n ?_
  refine Go.weaken (l' := [(2, (newP h)), (3, (newP h_2)), (4, r9)]) (Fr.c (Fr.c (Fr.c Fr.n))) ?_
  refine n6 ?_
  refine W.s (fun K9 n9 e9 q9 p9 => ?_)
  refine W.r ?_
  refine WL.a (some 11) r9 h_7 ?_
  replace hF := callN_some hF; obtain ⟨r12, h_10, e11, hF⟩ := hF
  refine WL.c (hc.ok w0) (some 12) e11 ?_
  refine WL.a (some 10) r12 h_10 ?_
  replace hF := obind_some hF; obtain ⟨v13, e12, hF⟩ := hF
  replace hF := obind_some hF; obtain ⟨t13, c13, hF⟩ := hF
  have c13 := avAgg_some c13
  subst c13
  refine WL.b (some 13) (.agg t13) h_10 (extract_tup (h := h_10) e12) ?_
  replace hF := obind_some hF; obtain ⟨v14, e14, hF⟩ := hF
  replace hF := obind_some hF; obtain ⟨t14, c15, hF⟩ := hF
  have c15 := avInt_some c15
  subst c15
  refine WL.b (some 14) (.int .i64 t14) h_10 (extract_tup (h := h_10) e14) ?_
  replace hF := lett_some hF; obtain ⟨h_16, e17, hF⟩ := hF
  refine WL.val (d := (some 5)) (v := (newP h_10)) (h' := h_16) (by kernel_rfl) (by kernel_rfl) (val_ofH e17 (by kernel_rfl)) ?_
  replace hF := obind_some hF; obtain ⟨h_18, e19, hF⟩ := hF
  refine WL.e h_18 (store_row (P := Try.prog) (h := h_16) (t := 30) (v := (.agg t13)) (by kernel_rfl) (by kernel_rfl) e19) ?_
  refine WL.a (some 6) (.int .i64 t14) h_18 ?_
  refine WL.n ?_
  refine Go.weaken (l' := [(2, (newP h)), (3, (newP h_2)), (4, r9), (5, (newP h_10)), (6, .int .i64 t14)]) (Fr.c (Fr.c (Fr.c (Fr.c (Fr.c Fr.n))))) ?_
  refine n9 ?_
  refine W.s (fun K20 n20 e20 q20 p20 => ?_)
  refine W.s (fun K21 n21 e21 q21 p21 => ?_)
  refine W.r ?_
  refine WL.a (some 15) r9 h_18 ?_
  replace hF := callN_some hF; obtain ⟨r16, h_22, e23, hF⟩ := hF
  replace hF := obind_some hF; obtain ⟨t16, c24, hF⟩ := hF
  have c24 := avAgg_some c24
  subst c24
  refine WL.c (hc.ok w0) (some 16) e23 ?_
  replace hF := lett_some hF; obtain ⟨h_25, e26, hF⟩ := hF
  refine WL.val (d := (some 7)) (v := (newP h_22)) (h' := h_25) (by kernel_rfl) (by kernel_rfl) (val_ofH e26 (by kernel_rfl)) ?_
  replace hF := obind_some hF; obtain ⟨h_27, e28, hF⟩ := hF
  refine WL.e h_27 (store_row (P := Try.prog) (h := h_25) (t := 33) (v := (.agg t16)) (by kernel_rfl) (by kernel_rfl) e28) ?_
  refine WL.n ?_
  refine Go.weaken (l' := [(2, (newP h)), (3, (newP h_2)), (5, (newP h_10)), (6, .int .i64 t14), (7, (newP h_22))]) (Fr.c (Fr.c (Fr.c (Fr.c (Fr.c Fr.n))))) ?_
  refine n21 ?_
  refine W.s (fun K29 n29 e29 q29 p29 => ?_)
  refine W.r ?_
  refine WL.a (some 17) (AV.ptr (AHeap.next h_22) 0) h_27 ?_
  replace hF := obind_some hF; obtain ⟨v18, e30, hF⟩ := hF
  replace hF := obind_some hF; obtain ⟨t18, c31, hF⟩ := hF
  have c31 := avInt_some c31
  subst c31
  refine WL.b (some 18) (.int .i64 t18) h_27 (load_cell (P := Try.prog) (h := h_27) (t := 23) (by kernel_rfl) e30) ?_
  replace hF := lett_some hF; obtain ⟨t19, e32, hF⟩ := hF
  refine WL.val (d := (some 19)) (v := .bool t19) (h' := h_27) (by kernel_rfl) (by kernel_rfl) (val_of AV.bool e32 (by kernel_rfl)) ?_
  refine WL.n ?_
  refine Go.weaken (l' := [(2, (newP h)), (3, (newP h_2)), (5, (newP h_10)), (6, .int .i64 t14), (7, (newP h_22)), (19, .bool t19)]) (Fr.c (Fr.c (Fr.c (Fr.c (Fr.c (Fr.c Fr.n)))))) ?_
  refine n29 ?_
  cases t19 with
  | true =>
    replace hF := ifB_t hF
    refine W.t ?_
    refine W.s (fun K33 n33 e33 q33 p33 => ?_)
    refine W.draw (by kernel_rfl) (hc.ok w0) (plan := [0, 1, 2, 3]) (by kernel_rfl) (by kernel_rfl) (by kernel_rfl) ?_
    refine WD.a 0 (some 20) (.agg ([.int .u8 0, .int .i64 0, .int .i64 0, .int .i64 0, .int .i64 0, .int .i64 0, .int .i64 0, .int .i64 0, .bool false, .nsl, .int .i64 0, .int .i64 0, .str 0 0, .int .i64 0, .int .i64 0, .int .i64 0, .int .i64 0, .int .i64 0, .int .i64 0, .int .u8 0, .int .i64 0, .int .i64 0] : List AV)) h_27 ?_
    replace hF := obind_some hF; obtain ⟨t21, e34, hF⟩ := hF
    refine WD.b 1 (some 21) (.agg t21) h_27 (load_row (P := Try.prog) (h := h_27) (t := 33) (by kernel_rfl) (by kernel_rfl) e34) ?_
    replace hF := obind_some hF; obtain ⟨h_35, e36, hF⟩ := hF
    replace hF := chk_some hF; obtain ⟨k37, hF⟩ := hF
    refine WD.eff (h' := h_35) (by kernel_rfl) (by kernel_rfl) (Eq.trans (by kernel_rfl) (store_row (P := Try.prog) (h := h_27) (t := 30) (v := (.agg ([.int .u8 0, .int .i64 0, .int .i64 0, .int .i64 0, .int .i64 0, .int .i64 0, .int .i64 0, .int .i64 0, .bool false, .nsl, .int .i64 0, .int .i64 0, .str 0 0, .int .i64 0, .int .i64 0, .int .i64 0, .int .i64 0, .int .i64 0, .int .i64 0, .int .u8 0, .int .i64 0, .int .i64 0] : List AV))) (by kernel_rfl) (by kernel_rfl) e36)) (k := 2) (by kernel_rfl) (fun _ => (Eq.trans (by kernel_rfl) k37)) (by decide) ?_
    replace hF := obind_some hF; obtain ⟨h_38, e39, hF⟩ := hF
    refine WD.eff (h' := h_38) (by kernel_rfl) (by kernel_rfl) (Eq.trans (by kernel_rfl) (store_row (P := Try.prog) (h := h_35) (t := 33) (v := (.agg t21)) (by kernel_rfl) (by kernel_rfl) e39)) (k := 2) (by kernel_rfl) (fun _ => (by kernel_rfl)) (by decide) ?_
    refine WD.nil ?_
    refine Go.weaken (l' := [(2, (newP h)), (3, (newP h_2))]) (Fr.c (Fr.c Fr.n)) ?_
    refine n33 ?_
    refine W.ret (by kernel_rfl) ?_
    refine q20 ?_
    replace hF := obind_some hF; obtain ⟨w2, e40, hF⟩ := hF
    replace hF := obind_some hF; obtain ⟨w3, e41, hF⟩ := hF
    obtain ⟨hF, hF2⟩ := ret_inj hF; subst hF; subst hF2
    exact leave_of (rs := [.cell 2 30, .cell 3 33]) (vs := [.agg w2, .agg w3]) (by kernel_rfl) (res_cell (by kernel_rfl) (load_row (P := Try.prog) (h := h_38) (t := 30) (by kernel_rfl) (by kernel_rfl) e40) (res_cell (by kernel_rfl) (load_row (P := Try.prog) (h := h_38) (t := 33) (by kernel_rfl) (by kernel_rfl) e41) res_nil)) (by kernel_rfl)
  | false =>
    replace hF := ifB_f hF
    refine W.f ?_
    refine W.skip (by kernel_rfl) ?_
    refine n20 ?_
    refine W.s (fun K42 n42 e42 q42 p42 => ?_)
    refine W.s (fun K43 n43 e43 q43 p43 => ?_)
    refine W.r ?_
    refine WL.a (some 22) (.int .i64 t14) h_27 ?_
    refine WL.a (some 23) (AV.ptr (AHeap.next h_10) 9) h_27 ?_
    replace hF := obind_some hF; obtain ⟨v24, e44, hF⟩ := hF
    refine WL.b (some 24) v24 h_27 (load_cell (P := Try.prog) (h := h_27) (t := 26) (by kernel_rfl) e44) ?_
    replace hF := obind_some hF; obtain ⟨t25, e45, hF⟩ := hF
    refine WL.b (some 25) (.int .i64 t25) h_27 (len_row (P := Try.prog) (h := h_27) (t := 26) (e' := 42) (by kernel_rfl) e45) ?_
    replace hF := lett_some hF; obtain ⟨t26, e46, hF⟩ := hF
    refine WL.val (d := (some 26)) (v := .bool t26) (h' := h_27) (by kernel_rfl) (by kernel_rfl) (val_of AV.bool e46 (by kernel_rfl)) ?_
    refine WL.a (some 27) (.bool t26) h_27 ?_
    replace hF := lett_some hF; obtain ⟨j31, e48, hF⟩ := hF
    have J49 : ∀ (t31 : Bool) (h_47 : AHeap), j31 t31 h_47 = some (rR, hR) → WL Try.prog w0 m0 (Func.ntmps Try.f11) (Code.ops (Code.p1 (Code.p1 (Code.p2 (Code.p2 (Code.p2 (Code.p2 (codeOf Try.f11)))))))) 10 K43 [(2, (newP h)), (3, (newP h_2)), (5, (newP h_10)), (31, .bool t31)] [] h_47 := by
      intro t31 h_47 hF
      rw [e48] at hF
      refine WL.n ?_
      refine Go.weaken (l' := [(2, (newP h)), (3, (newP h_2)), (5, (newP h_10)), (31, .bool t31)]) (Fr.c (Fr.c (Fr.c (Fr.c Fr.n)))) ?_
      refine n43 ?_
      cases t31 with
      | true =>
        replace hF := ifB_t hF
        refine W.t ?_
        refine W.s (fun K50 n50 e50 q50 p50 => ?_)
        refine W.r ?_
        refine WL.a (some 32) (.agg ([.int .u8 0, .int .i64 0, .int .i64 0, .int .i64 0, .int .i64 0, .int .i64 0, .int .i64 0, .int .i64 0, .bool false, .nsl, .int .i64 0, .int .i64 0, .str 0 0, .int .i64 0, .int .i64 0, .int .i64 0, .int .i64 0, .int .i64 0, .int .i64 0, .int .u8 0, .int .i64 0, .int .i64 0] : List AV)) h_47 ?_
        refine WL.a (some 33) (.agg ([.int .i64 7, .int .i64 0] : List AV)) h_47 ?_
        replace hF := obind_some hF; obtain ⟨h_51, e52, hF⟩ := hF
        refine WL.e h_51 (store_row (P := Try.prog) (h := h_47) (t := 30) (v := (.agg ([.int .u8 0, .int .i64 0, .int .i64 0, .int .i64 0, .int .i64 0, .int .i64 0, .int .i64 0, .int .i64 0, .bool false, .nsl, .int .i64 0, .int .i64 0, .str 0 0, .int .i64 0, .int .i64 0, .int .i64 0, .int .i64 0, .int .i64 0, .int .i64 0, .int .u8 0, .int .i64 0, .int .i64 0] : List AV))) (by kernel_rfl) (by kernel_rfl) e52) ?_
        replace hF := obind_some hF; obtain ⟨h_53, e54, hF⟩ := hF
        refine WL.e h_53 (store_row (P := Try.prog) (h := h_51) (t := 33) (v := (.agg ([.int .i64 7, .int .i64 0] : List AV))) (by kernel_rfl) (by kernel_rfl) e54) ?_
        refine WL.n ?_
        refine Go.weaken (l' := [(2, (newP h)), (3, (newP h_2))]) (Fr.c (Fr.c Fr.n)) ?_
        refine n50 ?_
        refine W.ret (by kernel_rfl) ?_
        refine q42 ?_
        replace hF := obind_some hF; obtain ⟨w2_56, e55, hF⟩ := hF
        replace hF := obind_some hF; obtain ⟨w3_58, e57, hF⟩ := hF
        obtain ⟨hF, hF2⟩ := ret_inj hF; subst hF; subst hF2
        exact leave_of (rs := [.cell 2 30, .cell 3 33]) (vs := [.agg w2_56, .agg w3_58]) (by kernel_rfl) (res_cell (by kernel_rfl) (load_row (P := Try.prog) (h := h_53) (t := 30) (by kernel_rfl) (by kernel_rfl) e55) (res_cell (by kernel_rfl) (load_row (P := Try.prog) (h := h_53) (t := 33) (by kernel_rfl) (by kernel_rfl) e57) res_nil)) (by kernel_rfl)
      | false =>
        replace hF := ifB_f hF
        refine W.f ?_
        refine W.skip (by kernel_rfl) ?_
        refine n42 ?_
        refine W.s (fun K59 n59 e59 q59 p59 => ?_)
        refine W.r ?_
        replace hF := obind_some hF; obtain ⟨t34, e60, hF⟩ := hF
        refine WL.b (some 34) (.agg t34) h_47 (load_row (P := Try.prog) (h := h_47) (t := 30) (by kernel_rfl) (by kernel_rfl) e60) ?_
        refine WL.a (some 35) (.agg ([.int .i64 0, .int .i64 0] : List AV)) h_47 ?_
        replace hF := obind_some hF; obtain ⟨h_61, e62, hF⟩ := hF
        refine WL.e h_61 (store_row (P := Try.prog) (h := h_47) (t := 30) (v := (.agg t34)) (by kernel_rfl) (by kernel_rfl) e62) ?_
        replace hF := obind_some hF; obtain ⟨h_63, e64, hF⟩ := hF
        refine WL.e h_63 (store_row (P := Try.prog) (h := h_61) (t := 33) (v := (.agg ([.int .i64 0, .int .i64 0] : List AV))) (by kernel_rfl) (by kernel_rfl) e64) ?_
        refine WL.n ?_
        refine Go.weaken (l' := [(2, (newP h)), (3, (newP h_2))]) (Fr.c (Fr.c Fr.n)) ?_
        refine n59 ?_
        refine W.ret (by kernel_rfl) ?_
        replace hF := obind_some hF; obtain ⟨w2_66, e65, hF⟩ := hF
        replace hF := obind_some hF; obtain ⟨w3_68, e67, hF⟩ := hF
        obtain ⟨hF, hF2⟩ := ret_inj hF; subst hF; subst hF2
        exact leave_of (rs := [.cell 2 30, .cell 3 33]) (vs := [.agg w2_66, .agg w3_68]) (by kernel_rfl) (res_cell (by kernel_rfl) (load_row (P := Try.prog) (h := h_63) (t := 30) (by kernel_rfl) (by kernel_rfl) e65) (res_cell (by kernel_rfl) (load_row (P := Try.prog) (h := h_63) (t := 33) (by kernel_rfl) (by kernel_rfl) e67) res_nil)) (by kernel_rfl)
    cases t26 with
    | true =>
      replace hF := ifB_t hF
      refine WL.o (some 28) ?_
      refine WL.o (some 29) ?_
      refine WL.o (some 30) ?_
      refine WL.a (some 31) (.bool true) h_27 ?_
      exact WL.weaken (Fr.c (Fr.c (Fr.c (Fr.c Fr.n)))) (J49 _ _ hF)
    | false =>
      replace hF := ifB_f hF
      replace hF := obind_some hF; obtain ⟨t28, e69, hF⟩ := hF
      refine WL.b (some 28) (.agg t28) h_27 (load_row (P := Try.prog) (h := h_27) (t := 30) (by kernel_rfl) (by kernel_rfl) e69) ?_
      replace hF := callN_some hF; obtain ⟨r29, h_70, e71, hF⟩ := hF
      replace hF := obind_some hF; obtain ⟨t29, c72, hF⟩ := hF
      have c72 := avInt_some c72
      subst c72
      refine WL.c (hc.ok w0) (some 29) e71 ?_
      replace hF := lett_some hF; obtain ⟨t30, e73, hF⟩ := hF
      refine WL.val (d := (some 30)) (v := .bool t30) (h' := h_70) (by kernel_rfl) (by kernel_rfl) (val_of AV.bool e73 (by kernel_rfl)) ?_
      refine WL.a (some 31) (.bool t30) h_70 ?_
      exact WL.weaken (Fr.c (Fr.c (Fr.c (Fr.c Fr.n)))) (J49 _ _ hF)
noncomputable def message_Decode_fn (call : CallF) (n : Nat) : FnT := fun args h => match args with
  | [x0] => obind (avStr x0) fun t0 => message_Decode call n t0 h
  | _ => none
set_option maxRecDepth 100000 in
theorem message_Decode_fn_eq (call : CallF) (n : Nat) (t0 : Bytes) (h : AHeap) : message_Decode_fn call n [strA t0] h = message_Decode call n t0 h :=
  (Eq.trans (obind_eq (fun t0 => message_Decode call n t0 h) (avStr_str t0)) rfl)
theorem message_Decode_holds {call : CallF} (hc : SaysAll Try.prog call) (n : Nat) : Holds Try.prog 11 (message_Decode_fn call n) := by
  intro args h r h2 e
  unfold message_Decode_fn at e
  split at e
  · replace e := obind_some e; obtain ⟨t0, c0, e⟩ := e; have c0 := avStr_some c0; subst c0
    exact message_Decode_ok hc e
  · cases e

noncomputable def message_read_L1b (call : CallF) (t0 : AV) (t10 : List AV) (k16 : AHeap → R) (self : Int → AHeap → R) (t11 : Int) (h_98 : AHeap) : R :=
  lett (decide (t11 < 15)) fun (t12 : Bool) =>
  ifB t12
  (
    outK (opIndex Try.prog h_98 62 (some (.agg t10)) (some (.int .i64 t11))) fun v13 h_105 =>
    callN (call 47 [t0] h_105) fun r16 h_107 =>
    obind (avInt .u64 r16) fun t16 =>
    lett (IntKind.i64.wrap t16) fun (t17 : Int) =>
    obind (nilC v13) fun t18 =>
    obind (stRow h_107 1 [.int .i64 t17] t18) fun h_112 =>
    lett (IntKind.i64.wrap (t11 + 1)) fun (t19 : Int) =>
    self t19 h_112)
  (
    k16 h_98)
noncomputable def message_read_L1 (call : CallF) (t0 : AV) (t10 : List AV) (k16 : AHeap → R) : Nat → Int → AHeap → R := iterR (fun _ _ => none) (message_read_L1b call t0 t10 k16)
theorem message_read_L1_s (call : CallF) (t0 : AV) (t10 : List AV) (k16 : AHeap → R) (m : Nat) : message_read_L1 call t0 t10 k16 (m + 1) = message_read_L1b call t0 t10 k16 (message_read_L1 call t0 t10 k16 m) := rfl
noncomputable def message_read_L0b (call : CallF) (t0 : AV) (h : AHeap) (t41 : Int) (k59 : AHeap → R) (self : Int → AHeap → R) (t42 : Int) (h_67 : AHeap) : R :=
  lett (decide (t42 < t41)) fun (t43 : Bool) =>
  ifB t43
  (
    callN (call 47 [t0] h_67) fun r45 h_74 =>
    obind (avInt .u64 r45) fun t45 =>
    lett (IntKind.i64.wrap t45) fun (t46 : Int) =>
    lett (newH h_74 42 [.int .i64 0, .str 0 0]) fun h_78 =>
    obind (stRow h_78 2 ([.int .i64 t46, .str 0 0] : List AV) (newP h_74)) fun h_80 =>
    callN (call 50 [t0, .int .i64 3500] h_80) fun r49 h_83 =>
    obind (avStr r49) fun t49 =>
    obind (stRow h_83 1 [strA t49] (AV.ptr (AHeap.next h_74) 1)) fun h_86 =>
    obind (ldCell h_86 (AV.ptr (AHeap.next h) 9)) fun v52 =>
    obind (ldRow h_86 2 (newP h_74)) fun t53 =>
    outK (bldSl Try.prog h_86 26 1 [(0, .agg t53)]) fun v54 h_90 =>
    outK (opAppend Try.prog h_90 26 26 v52 v54) fun v55 h_92 =>
    obind (stRow h_92 1 (AV.cells v55) (AV.ptr (AHeap.next h) 9)) fun h_94 =>
    lett (IntKind.i64.wrap (t42 + 1)) fun (t57 : Int) =>
    self t57 h_94)
  (
    k59 h_67)
noncomputable def message_read_L0 (call : CallF) (t0 : AV) (h : AHeap) (t41 : Int) (k59 : AHeap → R) : Nat → Int → AHeap → R := iterR (fun _ _ => none) (message_read_L0b call t0 h t41 k59)
theorem message_read_L0_s (call : CallF) (t0 : AV) (h : AHeap) (t41 : Int) (k59 : AHeap → R) (m : Nat) : message_read_L0 call t0 h t41 k59 (m + 1) = message_read_L0b call t0 h t41 k59 (message_read_L0 call t0 h t41 k59 m) := rfl
noncomputable def message_read (call : CallF) (n : Nat) (t0 : AV) (h : AHeap) : R :=
  lett (newH h 30 [.int .u8 0, .int .i64 0, .int .i64 0, .int .i64 0, .int .i64 0, .int .i64 0, .int .i64 0, .int .i64 0, .bool false, .nsl, .int .i64 0, .int .i64 0, .str 0 0, .int .i64 0, .int .i64 0, .int .i64 0, .int .i64 0, .int .i64 0, .int .i64 0, .int .u8 0, .int .i64 0, .int .i64 0]) fun h_2 =>
  callN (call 46 [t0] h_2) fun r8 h_5 =>
  obind (avInt .u8 r8) fun t8 =>
  obind (stRow h_5 1 [.int .u8 t8] (AV.ptr (AHeap.next h) 0)) fun h_8 =>
  callN (call 23 [(newP h)] h_8) fun r10 h_12 =>
  obind (avAgg r10) fun t10 =>
  lett (fun  (h_17 : AHeap) =>
    callN (call 48 [t0] h_17) fun r21 h_19 =>
    obind (avBool r21) fun t21 =>
    obind (stRow h_19 1 [.bool t21] (AV.ptr (AHeap.next h) 8)) fun h_22 =>
    callN (call 46 [t0] h_22) fun r24 h_25 =>
    obind (avInt .u8 r24) fun t24 =>
    obind (stRow h_25 1 [.int .u8 t24] (AV.ptr (AHeap.next h) 19)) fun h_28 =>
    callN (call 49 [t0] h_28) fun r27 h_31 =>
    obind (avInt .u32 r27) fun t27 =>
    lett (IntKind.i64.wrap t27) fun (t28 : Int) =>
    obind (stRow h_31 1 [.int .i64 t28] (AV.ptr (AHeap.next h) 20)) fun h_35 =>
    callN (call 46 [t0] h_35) fun r31 h_38 =>
    obind (avInt .u8 r31) fun t31 =>
    lett (IntKind.i64.wrap t31) fun (t32 : Int) =>
    obind (stRow h_38 1 [.int .i64 t32] (AV.ptr (AHeap.next h) 21)) fun h_42 =>
    callN (call 50 [t0, .int .i64 3500] h_42) fun r35 h_45 =>
    obind (avStr r35) fun t35 =>
    obind (stRow h_45 1 [strA t35] (AV.ptr (AHeap.next h) 12)) fun h_48 =>
    callN (call 46 [t0] h_48) fun r38 h_51 =>
    obind (avInt .u8 r38) fun t38 =>
    lett (IntKind.i64.wrap t38) fun (t39 : Int) =>
    lett (if 4 < t39 then 4 else t39) fun (t41 : Int) =>
    lett (fun  (h_60 : AHeap) =>
      obind (ldRow h_60 22 (newP h)) fun t58 =>
      obind (stRow h_60 22 t58 (newP h)) fun h_63 =>
      obind (ldRow h_63 22 (newP h)) fun w2 =>
      some (.ret (.tup [.agg w2, .int .i64 t39]), h_63)) fun k59 =>
    message_read_L0 call t0 h t41 k59 n 0 h_51) fun k16 =>
  message_read_L1 call t0 t10 k16 n 0 h_12
set_option maxHeartbeats 4000000 in
set_option maxRecDepth 20000 in
theorem message_read_ok {call : CallF} (hc : SaysAll Try.prog call) {n : Nat} {t0 : AV} {h : AHeap} {rR : ARes} {hR : AHeap} (hF : message_read call n t0 h = some (rR, hR)) : Says Try.prog 30 [t0] h rR hR := by
  unfold message_read at hF
  refine says_of (fn := Try.f30) Try.func30 (c := codeOf Try.f30) (by kernel_rfl) (by kernel_rfl) (fun w0 m0 => ?_)
  refine W.weaken (l' := [(0, t0)]) (Fr.c Fr.n) ?_
  refine W.s (fun K1 n1 e1 q1 p1 => ?_)
  refine W.r ?_
  replace hF := lett_some hF; obtain ⟨h_2, e3, hF⟩ := hF
  refine WL.val (d := (some 2)) (v := (newP h)) (h' := h_2) (by kernel_rfl) (by kernel_rfl) (val_ofH e3 (by kernel_rfl)) ?_
  refine WL.a (some 3) (.int .i64 0) h_2 ?_
  refine WL.n ?_
  refine Go.weaken (l' := [(0, t0), (2, (newP h))]) (Fr.c (Fr.c Fr.n)) ?_
  refine n1 ?_
  refine W.s (fun K4 n4 e4 q4 p4 => ?_)
  refine W.r ?_
  refine WL.a (some 7) t0 h_2 ?_
  replace hF := callN_some hF; obtain ⟨r8, h_5, e6, hF⟩ := hF
  replace hF := obind_some hF; obtain ⟨t8, c7, hF⟩ := hF
  have c7 := avInt_some c7
  subst c7
  refine WL.c (hc.ok w0) (some 8) e6 ?_
  refine WL.a (some 9) (AV.ptr (AHeap.next h) 0) h_5 ?_
  replace hF := obind_some hF; obtain ⟨h_8, e9, hF⟩ := hF
  refine WL.e h_8 (store_row (P := Try.prog) (h := h_5) (t := 5) (v := (.int .u8 t8)) (by kernel_rfl) (by kernel_rfl) e9) ?_
  refine WL.n ?_
  refine Go.weaken (l' := [(0, t0), (2, (newP h))]) (Fr.c (Fr.c Fr.n)) ?_
  refine n4 ?_
  refine W.s (fun K10 n10 e10 q10 p10 => ?_)
  refine W.s (fun K11 n11 e11 q11 p11 => ?_)
  refine W.r ?_
  replace hF := callN_some hF; obtain ⟨r10, h_12, e13, hF⟩ := hF
  replace hF := obind_some hF; obtain ⟨t10, c14, hF⟩ := hF
  have c14 := avAgg_some c14
  subst c14
  refine WL.c (hc.ok w0) (some 10) e13 ?_
  refine WL.a (some 11) (.int .i64 0) h_12 ?_
  refine WL.n ?_
  refine Go.weaken (l' := [(0, t0), (2, (newP h)), (10, .agg t10), (11, .int .i64 0)]) (Fr.c (Fr.c (Fr.c (Fr.c Fr.n)))) ?_
  refine n11 ?_
  replace hF := lett_some hF; obtain ⟨k16, e16, hF⟩ := hF
  have J16 : ∀  (h_17 : AHeap), k16 h_17 = some (rR, hR) → Go w0 m0 (Func.ntmps Try.f30) (K10 .normal) [(0, t0), (2, (newP h))] [] h_17 := by
    intro  h_17 hF
    rw [e16] at hF
    refine n10 ?_
    refine W.s (fun K18 n18 e18 q18 p18 => ?_)
    refine W.r ?_
    refine WL.a (some 20) t0 h_17 ?_
    replace hF := callN_some hF; obtain ⟨r21, h_19, e20, hF⟩ := hF
    replace hF := obind_some hF; obtain ⟨t21, c21, hF⟩ := hF
    have c21 := avBool_some c21
    subst c21
    refine WL.c (hc.ok w0) (some 21) e20 ?_
    refine WL.a (some 22) (AV.ptr (AHeap.next h) 8) h_19 ?_
    replace hF := obind_some hF; obtain ⟨h_22, e23, hF⟩ := hF
    refine WL.e h_22 (store_row (P := Try.prog) (h := h_19) (t := 4) (v := (.bool t21)) (by kernel_rfl) (by kernel_rfl) e23) ?_
    refine WL.n ?_
    refine Go.weaken (l' := [(0, t0), (2, (newP h))]) (Fr.c (Fr.c Fr.n)) ?_
    refine n18 ?_
    refine W.s (fun K24 n24 e24 q24 p24 => ?_)
    refine W.r ?_
    refine WL.a (some 23) t0 h_22 ?_
    replace hF := callN_some hF; obtain ⟨r24, h_25, e26, hF⟩ := hF
    replace hF := obind_some hF; obtain ⟨t24, c27, hF⟩ := hF
    have c27 := avInt_some c27
    subst c27
    refine WL.c (hc.ok w0) (some 24) e26 ?_
    refine WL.a (some 25) (AV.ptr (AHeap.next h) 19) h_25 ?_
    replace hF := obind_some hF; obtain ⟨h_28, e29, hF⟩ := hF
    refine WL.e h_28 (store_row (P := Try.prog) (h := h_25) (t := 5) (v := (.int .u8 t24)) (by kernel_rfl) (by kernel_rfl) e29) ?_
    refine WL.n ?_
    refine Go.weaken (l' := [(0, t0), (2, (newP h))]) (Fr.c (Fr.c Fr.n)) ?_
    refine n24 ?_
    refine W.s (fun K30 n30 e30 q30 p30 => ?_)
    refine W.r ?_
    refine WL.a (some 26) t0 h_28 ?_
    replace hF := callN_some hF; obtain ⟨r27, h_31, e32, hF⟩ := hF
    replace hF := obind_some hF; obtain ⟨t27, c33, hF⟩ := hF
    have c33 := avInt_some c33
    subst c33
    refine WL.c (hc.ok w0) (some 27) e32 ?_
    replace hF := lett_some hF; obtain ⟨t28, e34, hF⟩ := hF
    refine WL.val (d := (some 28)) (v := .int .i64 t28) (h' := h_31) (by kernel_rfl) (by kernel_rfl) (val_of (AV.int .i64) e34 (by kernel_rfl)) ?_
    refine WL.a (some 29) (AV.ptr (AHeap.next h) 20) h_31 ?_
    replace hF := obind_some hF; obtain ⟨h_35, e36, hF⟩ := hF
    refine WL.e h_35 (store_row (P := Try.prog) (h := h_31) (t := 23) (v := (.int .i64 t28)) (by kernel_rfl) (by kernel_rfl) e36) ?_
    refine WL.n ?_
    refine Go.weaken (l' := [(0, t0), (2, (newP h))]) (Fr.c (Fr.c Fr.n)) ?_
    refine n30 ?_
    refine W.s (fun K37 n37 e37 q37 p37 => ?_)
    refine W.r ?_
    refine WL.a (some 30) t0 h_35 ?_
    replace hF := callN_some hF; obtain ⟨r31, h_38, e39, hF⟩ := hF
    replace hF := obind_some hF; obtain ⟨t31, c40, hF⟩ := hF
    have c40 := avInt_some c40
    subst c40
    refine WL.c (hc.ok w0) (some 31) e39 ?_
    replace hF := lett_some hF; obtain ⟨t32, e41, hF⟩ := hF
    refine WL.val (d := (some 32)) (v := .int .i64 t32) (h' := h_38) (by kernel_rfl) (by kernel_rfl) (val_of (AV.int .i64) e41 (by kernel_rfl)) ?_
    refine WL.a (some 33) (AV.ptr (AHeap.next h) 21) h_38 ?_
    replace hF := obind_some hF; obtain ⟨h_42, e43, hF⟩ := hF
    refine WL.e h_42 (store_row (P := Try.prog) (h := h_38) (t := 3) (v := (.int .i64 t32)) (by kernel_rfl) (by kernel_rfl) e43) ?_
    refine WL.n ?_
    refine Go.weaken (l' := [(0, t0), (2, (newP h))]) (Fr.c (Fr.c Fr.n)) ?_
    refine n37 ?_
    refine W.s (fun K44 n44 e44 q44 p44 => ?_)
    refine W.r ?_
    refine WL.a (some 34) t0 h_42 ?_
    replace hF := callN_some hF; obtain ⟨r35, h_45, e46, hF⟩ := hF
    replace hF := obind_some hF; obtain ⟨t35, c47, hF⟩ := hF
    have c47 := avStr_some c47
    subst c47
    refine WL.c (hc.ok w0) (some 35) e46 ?_
    refine WL.a (some 36) (AV.ptr (AHeap.next h) 12) h_45 ?_
    replace hF := obind_some hF; obtain ⟨h_48, e49, hF⟩ := hF
    refine WL.e h_48 (store_row (P := Try.prog) (h := h_45) (t := 9) (v := (strA t35)) (by kernel_rfl) (by kernel_rfl) e49) ?_
    refine WL.n ?_
    refine Go.weaken (l' := [(0, t0), (2, (newP h))]) (Fr.c (Fr.c Fr.n)) ?_
    refine n44 ?_
    refine W.s (fun K50 n50 e50 q50 p50 => ?_)
    refine W.r ?_
    refine WL.a (some 37) t0 h_48 ?_
    replace hF := callN_some hF; obtain ⟨r38, h_51, e52, hF⟩ := hF
    replace hF := obind_some hF; obtain ⟨t38, c53, hF⟩ := hF
    have c53 := avInt_some c53
    subst c53
    refine WL.c (hc.ok w0) (some 38) e52 ?_
    replace hF := lett_some hF; obtain ⟨t39, e54, hF⟩ := hF
    refine WL.val (d := (some 39)) (v := .int .i64 t39) (h' := h_51) (by kernel_rfl) (by kernel_rfl) (val_of (AV.int .i64) e54 (by kernel_rfl)) ?_
    refine WL.a (some 3) (.int .i64 t39) h_51 ?_
    refine WL.n ?_
    refine Go.weaken (l' := [(0, t0), (2, (newP h)), (3, .int .i64 t39)]) (Fr.c (Fr.c (Fr.c Fr.n))) ?_
    refine n50 ?_
    refine W.s (fun K55 n55 e55 q55 p55 => ?_)
    refine W.s (fun K56 n56 e56 q56 p56 => ?_)
    refine W.r ?_
    refine WL.a (some 40) (.int .i64 t39) h_51 ?_
    replace hF := lett_some hF; obtain ⟨t41, e57, hF⟩ := hF
    refine WL.val (d := (some 41)) (v := .int .i64 t41) (h' := h_51) (by kernel_rfl) (by kernel_rfl) (val_of (AV.int .i64) e57 (by kernel_rfl)) ?_
    refine WL.a (some 42) (.int .i64 0) h_51 ?_
    refine WL.n ?_
    refine Go.weaken (l' := [(0, t0), (2, (newP h)), (3, .int .i64 t39), (41, .int .i64 t41), (42, .int .i64 0)]) (Fr.c (Fr.c (Fr.c (Fr.c (Fr.c Fr.n))))) ?_
    refine n56 ?_
    replace hF := lett_some hF; obtain ⟨k59, e59, hF⟩ := hF
    have J59 : ∀  (h_60 : AHeap), k59 h_60 = some (rR, hR) → Go w0 m0 (Func.ntmps Try.f30) (K55 .normal) [(2, (newP h)), (3, .int .i64 t39)] [] h_60 := by
      intro  h_60 hF
      rw [e59] at hF
      refine n55 ?_
      refine W.s (fun K61 n61 e61 q61 p61 => ?_)
      refine W.r ?_
      replace hF := obind_some hF; obtain ⟨t58, e62, hF⟩ := hF
      refine WL.b (some 58) (.agg t58) h_60 (load_row (P := Try.prog) (h := h_60) (t := 30) (by kernel_rfl) (by kernel_rfl) e62) ?_
      refine WL.a (some 59) (.int .i64 t39) h_60 ?_
      replace hF := obind_some hF; obtain ⟨h_63, e64, hF⟩ := hF
      refine WL.e h_63 (store_row (P := Try.prog) (h := h_60) (t := 30) (v := (.agg t58)) (by kernel_rfl) (by kernel_rfl) e64) ?_
      refine WL.a (some 3) (.int .i64 t39) h_63 ?_
      refine WL.n ?_
      refine Go.weaken (l' := [(2, (newP h)), (3, .int .i64 t39)]) (Fr.c (Fr.c Fr.n)) ?_
      refine n61 ?_
      refine W.ret (by kernel_rfl) ?_
      replace hF := obind_some hF; obtain ⟨w2, e65, hF⟩ := hF
      obtain ⟨hF, hF2⟩ := ret_inj hF; subst hF; subst hF2
      exact leave_of (rs := [.cell 2 30, .tmp 3]) (vs := [.agg w2, .int .i64 t39]) (by kernel_rfl) (res_cell (by kernel_rfl) (load_row (P := Try.prog) (h := h_63) (t := 30) (by kernel_rfl) (by kernel_rfl) e65) (res_tmp (by kernel_rfl) res_nil)) (by kernel_rfl)
    refine W.blockK (by kernel_rfl) (fun K58 n58 s58 o58 q58 p58 => ?_)
    refine W.loopK (by kernel_rfl) (fun I66 K66 b66 n66 e66 q66 p66 => ?_)
    have L66 : ∀ (m : Nat) (t42 : Int) (h_67 : AHeap), message_read_L0 call t0 h t41 k59 m t42 h_67 = some (rR, hR) → Go w0 m0 (Func.ntmps Try.f30) I66 [(0, t0), (2, (newP h)), (3, .int .i64 t39), (41, .int .i64 t41), (42, .int .i64 t42)] [] h_67 := by
      intro m
      induction m with
      | zero => intro t42 h_67 hF; cases hF
      | succ m ih66 =>
        intro t42 h_67 hF
        rw [message_read_L0_s] at hF; unfold message_read_L0b at hF
        refine b66 ?_
        refine W.s (fun K68 n68 e68 q68 p68 => ?_)
        refine W.r ?_
        replace hF := lett_some hF; obtain ⟨t43, e69, hF⟩ := hF
        refine WL.val (d := (some 43)) (v := .bool t43) (h' := h_67) (by kernel_rfl) (by kernel_rfl) (val_of AV.bool e69 (by kernel_rfl)) ?_
        refine WL.n ?_
        refine Go.weaken (l' := [(0, t0), (2, (newP h)), (3, .int .i64 t39), (41, .int .i64 t41), (42, .int .i64 t42), (43, .bool t43)]) (Fr.c (Fr.c (Fr.c (Fr.c (Fr.c (Fr.c Fr.n)))))) ?_
        refine n68 ?_
        refine W.s (fun K70 n70 e70 q70 p70 => ?_)
        cases t43 with
        | true =>
          replace hF := ifB_t hF
          refine W.t ?_
          refine W.skip (by kernel_rfl) ?_
          refine n70 ?_
          refine W.s (fun K71 n71 e71 q71 p71 => ?_)
          refine W.blockK (by kernel_rfl) (fun K72 n72 s72 o72 q72 p72 => ?_)
          refine W.s (fun K73 n73 e73 q73 p73 => ?_)
          refine W.r ?_
          refine WL.a (some 44) t0 h_67 ?_
          replace hF := callN_some hF; obtain ⟨r45, h_74, e75, hF⟩ := hF
          replace hF := obind_some hF; obtain ⟨t45, c76, hF⟩ := hF
          have c76 := avInt_some c76
          subst c76
          refine WL.c (hc.ok w0) (some 45) e75 ?_
          replace hF := lett_some hF; obtain ⟨t46, e77, hF⟩ := hF
          refine WL.val (d := (some 46)) (v := .int .i64 t46) (h' := h_74) (by kernel_rfl) (by kernel_rfl) (val_of (AV.int .i64) e77 (by kernel_rfl)) ?_
          refine WL.a (some 47) (.agg ([.int .i64 t46, .str 0 0] : List AV)) h_74 ?_
          replace hF := lett_some hF; obtain ⟨h_78, e79, hF⟩ := hF
          refine WL.val (d := (some 6)) (v := (newP h_74)) (h' := h_78) (by kernel_rfl) (by kernel_rfl) (val_ofH e79 (by kernel_rfl)) ?_
          replace hF := obind_some hF; obtain ⟨h_80, e81, hF⟩ := hF
          refine WL.e h_80 (store_row (P := Try.prog) (h := h_78) (t := 42) (v := (.agg ([.int .i64 t46, .str 0 0] : List AV))) (by kernel_rfl) (by kernel_rfl) e81) ?_
          refine WL.n ?_
          refine Go.weaken (l' := [(0, t0), (2, (newP h)), (3, .int .i64 t39), (6, (newP h_74)), (41, .int .i64 t41), (42, .int .i64 t42)]) (Fr.c (Fr.c (Fr.c (Fr.c (Fr.c (Fr.c Fr.n)))))) ?_
          refine n73 ?_
          refine W.s (fun K82 n82 e82 q82 p82 => ?_)
          refine W.r ?_
          refine WL.a (some 48) t0 h_80 ?_
          replace hF := callN_some hF; obtain ⟨r49, h_83, e84, hF⟩ := hF
          replace hF := obind_some hF; obtain ⟨t49, c85, hF⟩ := hF
          have c85 := avStr_some c85
          subst c85
          refine WL.c (hc.ok w0) (some 49) e84 ?_
          refine WL.a (some 50) (AV.ptr (AHeap.next h_74) 1) h_83 ?_
          replace hF := obind_some hF; obtain ⟨h_86, e87, hF⟩ := hF
          refine WL.e h_86 (store_row (P := Try.prog) (h := h_83) (t := 9) (v := (strA t49)) (by kernel_rfl) (by kernel_rfl) e87) ?_
          refine WL.n ?_
          refine Go.weaken (l' := [(0, t0), (2, (newP h)), (3, .int .i64 t39), (6, (newP h_74)), (41, .int .i64 t41), (42, .int .i64 t42)]) (Fr.c (Fr.c (Fr.c (Fr.c (Fr.c (Fr.c Fr.n)))))) ?_
          refine n82 ?_
          refine W.r ?_
          refine WL.a (some 51) (AV.ptr (AHeap.next h) 9) h_86 ?_
          replace hF := obind_some hF; obtain ⟨v52, e88, hF⟩ := hF
          refine WL.b (some 52) v52 h_86 (load_cell (P := Try.prog) (h := h_86) (t := 26) (by kernel_rfl) e88) ?_
          replace hF := obind_some hF; obtain ⟨t53, e89, hF⟩ := hF
          refine WL.b (some 53) (.agg t53) h_86 (load_row (P := Try.prog) (h := h_86) (t := 42) (by kernel_rfl) (by kernel_rfl) e89) ?_
          replace hF := outK_some hF; obtain ⟨v54, h_90, e91, hF⟩ := hF
          refine WL.b (some 54) v54 h_90 e91 ?_
          replace hF := outK_some hF; obtain ⟨v55, h_92, e93, hF⟩ := hF
          refine WL.b (some 55) v55 h_92 e93 ?_
          refine WL.a (some 56) (AV.ptr (AHeap.next h) 9) h_92 ?_
          replace hF := obind_some hF; obtain ⟨h_94, e95, hF⟩ := hF
          refine WL.e h_94 (store_row (P := Try.prog) (h := h_92) (t := 26) (v := v55) (by kernel_rfl) (by kernel_rfl) e95) ?_
          refine WL.n ?_
          refine Go.weaken (l' := [(0, t0), (2, (newP h)), (3, .int .i64 t39), (41, .int .i64 t41), (42, .int .i64 t42)]) (Fr.c (Fr.c (Fr.c (Fr.c (Fr.c Fr.n))))) ?_
          refine n72 ?_
          refine n71 ?_
          refine W.r ?_
          replace hF := lett_some hF; obtain ⟨t57, e96, hF⟩ := hF
          refine WL.val (d := (some 57)) (v := .int .i64 t57) (h' := h_94) (by kernel_rfl) (by kernel_rfl) (val_of (AV.int .i64) e96 (by kernel_rfl)) ?_
          refine WL.a (some 42) (.int .i64 t57) h_94 ?_
          refine WL.n ?_
          refine Go.weaken (l' := [(0, t0), (2, (newP h)), (3, .int .i64 t39), (41, .int .i64 t41), (42, .int .i64 t57)]) (Fr.c (Fr.c (Fr.c (Fr.c (Fr.c Fr.n))))) ?_
          refine n66 ?_
          exact Go.weaken (Fr.c (Fr.c (Fr.c (Fr.c (Fr.c Fr.n))))) (ih66 _ _ hF)
        | false =>
          replace hF := ifB_f hF
          refine W.f ?_
          refine W.exit (by kernel_rfl) ?_
          refine e70 ?_
          refine e66 ?_
          refine s58 (by kernel_rfl) ?_
          exact Go.weaken (Fr.c (Fr.c Fr.n)) (J59 _ hF)
    exact Go.weaken (Fr.c (Fr.c (Fr.c (Fr.c (Fr.c Fr.n))))) (L66 _ _ _ hF)
  refine W.blockK (by kernel_rfl) (fun K15 n15 s15 o15 q15 p15 => ?_)
  refine W.loopK (by kernel_rfl) (fun I97 K97 b97 n97 e97 q97 p97 => ?_)
  have L97 : ∀ (m : Nat) (t11 : Int) (h_98 : AHeap), message_read_L1 call t0 t10 k16 m t11 h_98 = some (rR, hR) → Go w0 m0 (Func.ntmps Try.f30) I97 [(0, t0), (2, (newP h)), (10, .agg t10), (11, .int .i64 t11)] [] h_98 := by
    intro m
    induction m with
    | zero => intro t11 h_98 hF; cases hF
    | succ m ih97 =>
      intro t11 h_98 hF
      rw [message_read_L1_s] at hF; unfold message_read_L1b at hF
      refine b97 ?_
      refine W.s (fun K99 n99 e99 q99 p99 => ?_)
      refine W.r ?_
      replace hF := lett_some hF; obtain ⟨t12, e100, hF⟩ := hF
      refine WL.val (d := (some 12)) (v := .bool t12) (h' := h_98) (by kernel_rfl) (by kernel_rfl) (val_of AV.bool e100 (by kernel_rfl)) ?_
      refine WL.n ?_
      refine Go.weaken (l' := [(0, t0), (2, (newP h)), (10, .agg t10), (11, .int .i64 t11), (12, .bool t12)]) (Fr.c (Fr.c (Fr.c (Fr.c (Fr.c Fr.n))))) ?_
      refine n99 ?_
      refine W.s (fun K101 n101 e101 q101 p101 => ?_)
      cases t12 with
      | true =>
        replace hF := ifB_t hF
        refine W.t ?_
        refine W.skip (by kernel_rfl) ?_
        refine n101 ?_
        refine W.s (fun K102 n102 e102 q102 p102 => ?_)
        refine W.blockK (by kernel_rfl) (fun K103 n103 s103 o103 q103 p103 => ?_)
        refine W.s (fun K104 n104 e104 q104 p104 => ?_)
        refine W.r ?_
        replace hF := outK_some hF; obtain ⟨v13, h_105, e106, hF⟩ := hF
        refine WL.b (some 13) v13 h_105 e106 ?_
        refine WL.a (some 5) v13 h_105 ?_
        refine WL.n ?_
        refine Go.weaken (l' := [(0, t0), (2, (newP h)), (5, v13), (10, .agg t10), (11, .int .i64 t11)]) (Fr.c (Fr.c (Fr.c (Fr.c (Fr.c Fr.n))))) ?_
        refine n104 ?_
        refine W.r ?_
        refine WL.a (some 14) v13 h_105 ?_
        refine WL.a (some 15) t0 h_105 ?_
        replace hF := callN_some hF; obtain ⟨r16, h_107, e108, hF⟩ := hF
        replace hF := obind_some hF; obtain ⟨t16, c109, hF⟩ := hF
        have c109 := avInt_some c109
        subst c109
        refine WL.c (hc.ok w0) (some 16) e108 ?_
        replace hF := lett_some hF; obtain ⟨t17, e110, hF⟩ := hF
        refine WL.val (d := (some 17)) (v := .int .i64 t17) (h' := h_107) (by kernel_rfl) (by kernel_rfl) (val_of (AV.int .i64) e110 (by kernel_rfl)) ?_
        replace hF := obind_some hF; obtain ⟨t18, e111, hF⟩ := hF
        refine WL.b (some 18) t18 h_107 (nil_chk (h := h_107) e111) ?_
        replace hF := obind_some hF; obtain ⟨h_112, e113, hF⟩ := hF
        refine WL.e h_112 (store_row (P := Try.prog) (h := h_107) (t := 3) (v := (.int .i64 t17)) (by kernel_rfl) (by kernel_rfl) e113) ?_
        refine WL.n ?_
        refine Go.weaken (l' := [(0, t0), (2, (newP h)), (10, .agg t10), (11, .int .i64 t11)]) (Fr.c (Fr.c (Fr.c (Fr.c Fr.n)))) ?_
        refine n103 ?_
        refine n102 ?_
        refine W.r ?_
        replace hF := lett_some hF; obtain ⟨t19, e114, hF⟩ := hF
        refine WL.val (d := (some 19)) (v := .int .i64 t19) (h' := h_112) (by kernel_rfl) (by kernel_rfl) (val_of (AV.int .i64) e114 (by kernel_rfl)) ?_
        refine WL.a (some 11) (.int .i64 t19) h_112 ?_
        refine WL.n ?_
        refine Go.weaken (l' := [(0, t0), (2, (newP h)), (10, .agg t10), (11, .int .i64 t19)]) (Fr.c (Fr.c (Fr.c (Fr.c Fr.n)))) ?_
        refine n97 ?_
        exact Go.weaken (Fr.c (Fr.c (Fr.c (Fr.c Fr.n)))) (ih97 _ _ hF)
      | false =>
        replace hF := ifB_f hF
        refine W.f ?_
        refine W.exit (by kernel_rfl) ?_
        refine e101 ?_
        refine e97 ?_
        refine s15 (by kernel_rfl) ?_
        exact Go.weaken (Fr.c (Fr.c Fr.n)) (J16 _ hF)
  exact Go.weaken (Fr.c (Fr.c (Fr.c (Fr.c Fr.n)))) (L97 _ _ _ hF)
noncomputable def message_read_fn (call : CallF) (n : Nat) : FnT := fun args h => match args with
  | [x0] => message_read call n x0 h
  | _ => none
set_option maxRecDepth 100000 in
theorem message_read_fn_eq (call : CallF) (n : Nat) (t0 : AV) (h : AHeap) : message_read_fn call n [t0] h = message_read call n t0 h :=
  rfl
theorem message_read_holds {call : CallF} (hc : SaysAll Try.prog call) (n : Nat) : Holds Try.prog 30 (message_read_fn call n) := by
  intro args h r h2 e
  unfold message_read_fn at e
  split at e
  · exact message_read_ok hc e
  · cases e

noncomputable def wire_New (_ : CallF) (_ : Nat) (t0 : Bytes) (h : AHeap) : R :=
  outK (opBox h 95 (some (.agg ([strA t0, .int .i64 0, .int .i64 0, .int .i64 0] : List AV)))) fun v5 h_3 =>
  some (.ret (v5), h_3)
set_option maxHeartbeats 4000000 in
set_option maxRecDepth 20000 in
theorem wire_New_ok {call : CallF} (_ : SaysAll Try.prog call) {n : Nat} {t0 : Bytes} {h : AHeap} {rR : ARes} {hR : AHeap} (hF : wire_New call n t0 h = some (rR, hR)) : Says Try.prog 29 [strA t0] h rR hR := by
  unfold wire_New at hF
  refine says_of (fn := Try.f29) Try.func29 (c := codeOf Try.f29) (by kernel_rfl) (by kernel_rfl) (fun w0 m0 => ?_)
  refine W.weaken (l' := [(0, strA t0)]) (Fr.c Fr.n) ?_
  refine W.s (fun K1 n1 e1 q1 p1 => ?_)
  refine W.r ?_
  refine WL.a (some 2) AV.nilp h ?_
  refine WL.n ?_
  refine Go.weaken (l' := [(0, strA t0)]) (Fr.c Fr.n) ?_
  refine n1 ?_
  refine W.s (fun K2 n2 e2 q2 p2 => ?_)
  refine W.r ?_
  refine WL.a (some 3) (strA t0) h ?_
  refine WL.a (some 4) (.agg ([strA t0, .int .i64 0, .int .i64 0, .int .i64 0] : List AV)) h ?_
  replace hF := outK_some hF; obtain ⟨v5, h_3, e4, hF⟩ := hF
  refine WL.b (some 5) v5 h_3 e4 ?_
  refine WL.a (some 2) v5 h_3 ?_
  refine WL.n ?_
  refine Go.weaken (l' := [(2, v5)]) (Fr.c Fr.n) ?_
  refine n2 ?_
  refine W.ret (by kernel_rfl) ?_
  obtain ⟨hF, hF2⟩ := ret_inj hF; subst hF; subst hF2
  exact leave_of (rs := [.tmp 2]) (vs := [v5]) (by kernel_rfl) (res_tmp (by kernel_rfl) res_nil) (by kernel_rfl)
noncomputable def wire_New_fn (call : CallF) (n : Nat) : FnT := fun args h => match args with
  | [x0] => obind (avStr x0) fun t0 => wire_New call n t0 h
  | _ => none
set_option maxRecDepth 100000 in
theorem wire_New_fn_eq (call : CallF) (n : Nat) (t0 : Bytes) (h : AHeap) : wire_New_fn call n [strA t0] h = wire_New call n t0 h :=
  (Eq.trans (obind_eq (fun t0 => wire_New call n t0 h) (avStr_str t0)) rfl)
theorem wire_New_holds {call : CallF} (hc : SaysAll Try.prog call) (n : Nat) : Holds Try.prog 29 (wire_New_fn call n) := by
  intro args h r h2 e
  unfold wire_New_fn at e
  split at e
  · replace e := obind_some e; obtain ⟨t0, c0, e⟩ := e; have c0 := avStr_some c0; subst c0
    exact wire_New_ok hc e
  · cases e

noncomputable def wire_Reader_End (call : CallF) (_ : Nat) (t0 : AV) (h : AHeap) : R :=
  lett (newH h 33 [.int .i64 0, .int .i64 0]) fun h_2 =>
  lett (fun (t16 : Bool) (h_7 : AHeap) =>
    ifB t16
    (
      obind (nilC t0) fun t18 =>
      obind (fldP 1 t18) fun t19 =>
      obind (ldCell h_7 t19) fun v20 =>
      obind (avInt .i64 v20) fun t20 =>
      obind (stRow h_7 2 ([.int .i64 7, .int .i64 t20] : List AV) (newP h)) fun h_13 =>
      obind (ldRow h_13 2 (newP h)) fun w2 =>
      some (.ret (.agg w2), h_13))
    (
      callN (call 52 [t0] h_7) fun r23 h_17 =>
      obind (avAgg r23) fun t23 =>
      obind (stRow h_17 2 t23 (newP h)) fun h_20 =>
      obind (ldRow h_20 2 (newP h)) fun w2_23 =>
      some (.ret (.agg w2_23), h_20))) fun k6 =>
  callN (call 51 [t0] h_2) fun r4 h_24 =>
  obind (avBool r4) fun t4 =>
  ifB t4
  (
    obind (nilC t0) fun t7 =>
    obind (fldP 1 t7) fun t8 =>
    obind (ldCell h_24 t8) fun v9 =>
    obind (avInt .i64 v9) fun t9 =>
    obind (nilC t0) fun t11 =>
    obind (fldP 0 t11) fun t12 =>
    obind (ldCell h_24 t12) fun v13 =>
    obind (avStr v13) fun t13 =>
    lett (decide (t9 < (lenS t13))) fun (t15 : Bool) =>
    k6 t15 h_24)
  (
    k6 false h_24)
set_option maxHeartbeats 4000000 in
set_option maxRecDepth 20000 in
theorem wire_Reader_End_ok {call : CallF} (hc : SaysAll Try.prog call) {n : Nat} {t0 : AV} {h : AHeap} {rR : ARes} {hR : AHeap} (hF : wire_Reader_End call n t0 h = some (rR, hR)) : Says Try.prog 31 [t0] h rR hR := by
  unfold wire_Reader_End at hF
  refine says_of (fn := Try.f31) Try.func31 (c := codeOf Try.f31) (by kernel_rfl) (by kernel_rfl) (fun w0 m0 => ?_)
  refine W.weaken (l' := [(0, t0)]) (Fr.c Fr.n) ?_
  refine W.s (fun K1 n1 e1 q1 p1 => ?_)
  refine W.r ?_
  replace hF := lett_some hF; obtain ⟨h_2, e3, hF⟩ := hF
  refine WL.val (d := (some 2)) (v := (newP h)) (h' := h_2) (by kernel_rfl) (by kernel_rfl) (val_ofH e3 (by kernel_rfl)) ?_
  refine WL.n ?_
  refine Go.weaken (l' := [(0, t0), (2, (newP h))]) (Fr.c (Fr.c Fr.n)) ?_
  refine n1 ?_
  refine W.s (fun K4 n4 e4 q4 p4 => ?_)
  refine W.s (fun K5 n5 e5 q5 p5 => ?_)
  replace hF := lett_some hF; obtain ⟨k6, e6, hF⟩ := hF
  have J6 : ∀ (t16 : Bool) (h_7 : AHeap), k6 t16 h_7 = some (rR, hR) → Go w0 m0 (Func.ntmps Try.f31) (K5 .normal) [(0, t0), (2, (newP h)), (16, .bool t16)] [] h_7 := by
    intro t16 h_7 hF
    rw [e6] at hF
    refine n5 ?_
    cases t16 with
    | true =>
      replace hF := ifB_t hF
      refine W.t ?_
      refine W.s (fun K8 n8 e8 q8 p8 => ?_)
      refine W.r ?_
      refine WL.a (some 17) t0 h_7 ?_
      replace hF := obind_some hF; obtain ⟨t18, e9, hF⟩ := hF
      refine WL.b (some 18) t18 h_7 (nil_chk (h := h_7) e9) ?_
      replace hF := obind_some hF; obtain ⟨t19, e10, hF⟩ := hF
      refine WL.b (some 19) t19 h_7 (field_ptr (P := Try.prog) (h := h_7) (s := 95) (f := 1) (by kernel_rfl) e10) ?_
      replace hF := obind_some hF; obtain ⟨v20, e11, hF⟩ := hF
      replace hF := obind_some hF; obtain ⟨t20, c12, hF⟩ := hF
      have c12 := avInt_some c12
      subst c12
      refine WL.b (some 20) (.int .i64 t20) h_7 (load_cell (P := Try.prog) (h := h_7) (t := 3) (by kernel_rfl) e11) ?_
      refine WL.a (some 21) (.agg ([.int .i64 7, .int .i64 t20] : List AV)) h_7 ?_
      replace hF := obind_some hF; obtain ⟨h_13, e14, hF⟩ := hF
      refine WL.e h_13 (store_row (P := Try.prog) (h := h_7) (t := 33) (v := (.agg ([.int .i64 7, .int .i64 t20] : List AV))) (by kernel_rfl) (by kernel_rfl) e14) ?_
      refine WL.n ?_
      refine Go.weaken (l' := [(2, (newP h))]) (Fr.c Fr.n) ?_
      refine n8 ?_
      refine W.ret (by kernel_rfl) ?_
      refine q4 ?_
      replace hF := obind_some hF; obtain ⟨w2, e15, hF⟩ := hF
      obtain ⟨hF, hF2⟩ := ret_inj hF; subst hF; subst hF2
      exact leave_of (rs := [.cell 2 33]) (vs := [.agg w2]) (by kernel_rfl) (res_cell (by kernel_rfl) (load_row (P := Try.prog) (h := h_13) (t := 33) (by kernel_rfl) (by kernel_rfl) e15) res_nil) (by kernel_rfl)
    | false =>
      replace hF := ifB_f hF
      refine W.f ?_
      refine W.skip (by kernel_rfl) ?_
      refine n4 ?_
      refine W.s (fun K16 n16 e16 q16 p16 => ?_)
      refine W.r ?_
      refine WL.a (some 22) t0 h_7 ?_
      replace hF := callN_some hF; obtain ⟨r23, h_17, e18, hF⟩ := hF
      replace hF := obind_some hF; obtain ⟨t23, c19, hF⟩ := hF
      have c19 := avAgg_some c19
      subst c19
      refine WL.c (hc.ok w0) (some 23) e18 ?_
      replace hF := obind_some hF; obtain ⟨h_20, e21, hF⟩ := hF
      refine WL.e h_20 (store_row (P := Try.prog) (h := h_17) (t := 33) (v := (.agg t23)) (by kernel_rfl) (by kernel_rfl) e21) ?_
      refine WL.n ?_
      refine Go.weaken (l' := [(2, (newP h))]) (Fr.c Fr.n) ?_
      refine n16 ?_
      refine W.ret (by kernel_rfl) ?_
      replace hF := obind_some hF; obtain ⟨w2_23, e22, hF⟩ := hF
      obtain ⟨hF, hF2⟩ := ret_inj hF; subst hF; subst hF2
      exact leave_of (rs := [.cell 2 33]) (vs := [.agg w2_23]) (by kernel_rfl) (res_cell (by kernel_rfl) (load_row (P := Try.prog) (h := h_20) (t := 33) (by kernel_rfl) (by kernel_rfl) e22) res_nil) (by kernel_rfl)
  refine W.draw (by kernel_rfl) (hc.ok w0) (plan := [0, 1, 2, 3, 4, 5, 6, 7, 8, 9, 10, 11, 12, 13]) (by kernel_rfl) (by kernel_rfl) (by kernel_rfl) ?_
  refine WD.a 0 (some 3) t0 h_2 ?_
  replace hF := callN_some hF; obtain ⟨r4, h_24, e25, hF⟩ := hF
  replace hF := obind_some hF; obtain ⟨t4, c26, hF⟩ := hF
  have c26 := avBool_some c26
  subst c26
  refine WD.call (d := (some 4)) (by kernel_rfl) (by kernel_rfl) (by kernel_rfl) e25 (k := 2) (by kernel_rfl) (fun _ => (by kernel_rfl)) (by decide) ?_
  refine WD.a 0 (some 5) (.bool t4) h_24 ?_
  cases t4 with
  | true =>
    replace hF := ifB_t hF
    refine WD.a 0 (some 6) t0 h_24 ?_
    replace hF := obind_some hF; obtain ⟨t7, e27, hF⟩ := hF
    refine WD.b 0 (some 7) t7 h_24 (nil_chk (h := h_24) e27) ?_
    replace hF := obind_some hF; obtain ⟨t8, e28, hF⟩ := hF
    refine WD.b 0 (some 8) t8 h_24 (field_ptr (P := Try.prog) (h := h_24) (s := 95) (f := 1) (by kernel_rfl) e28) ?_
    replace hF := obind_some hF; obtain ⟨v9, e29, hF⟩ := hF
    replace hF := obind_some hF; obtain ⟨t9, c30, hF⟩ := hF
    have c30 := avInt_some c30
    subst c30
    refine WD.b 1 (some 9) (.int .i64 t9) h_24 (load_cell (P := Try.prog) (h := h_24) (t := 3) (by kernel_rfl) e29) ?_
    refine WD.a 0 (some 10) t0 h_24 ?_
    replace hF := obind_some hF; obtain ⟨t11, e31, hF⟩ := hF
    refine WD.b 0 (some 11) t11 h_24 (nil_chk (h := h_24) e31) ?_
    replace hF := obind_some hF; obtain ⟨t12, e32, hF⟩ := hF
    refine WD.b 0 (some 12) t12 h_24 (field_ptr (P := Try.prog) (h := h_24) (s := 95) (f := 0) (by kernel_rfl) e32) ?_
    replace hF := obind_some hF; obtain ⟨v13, e33, hF⟩ := hF
    replace hF := obind_some hF; obtain ⟨t13, c34, hF⟩ := hF
    have c34 := avStr_some c34
    subst c34
    refine WD.b 1 (some 13) (strA t13) h_24 (load_cell (P := Try.prog) (h := h_24) (t := 9) (by kernel_rfl) e33) ?_
    refine WD.a 0 (some 14) (.int .i64 (lenS t13)) h_24 ?_
    replace hF := lett_some hF; obtain ⟨t15, e35, hF⟩ := hF
    refine WD.val (d := (some 15)) (v := .bool t15) (h' := h_24) (by kernel_rfl) (by kernel_rfl) (val_of AV.bool e35 (by kernel_rfl)) (k := 0) (by kernel_rfl) (fun e => absurd e (by decide)) (by decide) ?_
    refine WD.a 0 (some 16) (.bool t15) h_24 ?_
    refine WD.nil ?_
    exact Go.weaken (Fr.c (Fr.c (Fr.c Fr.n))) (J6 _ _ hF)
  | false =>
    replace hF := ifB_f hF
    refine WD.not (d := (some 6)) (by kernel_rfl) (by kernel_rfl) (k := 0) (by kernel_rfl) (fun e => absurd e (by decide)) (by decide) ?_
    refine WD.not (d := (some 7)) (by kernel_rfl) (by kernel_rfl) (k := 0) (by kernel_rfl) (fun e => absurd e (by decide)) (by decide) ?_
    refine WD.not (d := (some 8)) (by kernel_rfl) (by kernel_rfl) (k := 0) (by kernel_rfl) (fun e => absurd e (by decide)) (by decide) ?_
    refine WD.not (d := (some 9)) (by kernel_rfl) (by kernel_rfl) (k := 1) (by kernel_rfl) (fun e => absurd e (by decide)) (by decide) ?_
    refine WD.not (d := (some 10)) (by kernel_rfl) (by kernel_rfl) (k := 0) (by kernel_rfl) (fun e => absurd e (by decide)) (by decide) ?_
    refine WD.not (d := (some 11)) (by kernel_rfl) (by kernel_rfl) (k := 0) (by kernel_rfl) (fun e => absurd e (by decide)) (by decide) ?_
    refine WD.not (d := (some 12)) (by kernel_rfl) (by kernel_rfl) (k := 0) (by kernel_rfl) (fun e => absurd e (by decide)) (by decide) ?_
    refine WD.not (d := (some 13)) (by kernel_rfl) (by kernel_rfl) (k := 1) (by kernel_rfl) (fun e => absurd e (by decide)) (by decide) ?_
    refine WD.not (d := (some 14)) (by kernel_rfl) (by kernel_rfl) (k := 0) (by kernel_rfl) (fun e => absurd e (by decide)) (by decide) ?_
    refine WD.not (d := (some 15)) (by kernel_rfl) (by kernel_rfl) (k := 0) (by kernel_rfl) (fun e => absurd e (by decide)) (by decide) ?_
    refine WD.a 0 (some 16) (.bool false) h_24 ?_
    refine WD.nil ?_
    exact Go.weaken (Fr.c (Fr.c (Fr.c Fr.n))) (J6 _ _ hF)
noncomputable def wire_Reader_End_fn (call : CallF) (n : Nat) : FnT := fun args h => match args with
  | [x0] => wire_Reader_End call n x0 h
  | _ => none
set_option maxRecDepth 100000 in
theorem wire_Reader_End_fn_eq (call : CallF) (n : Nat) (t0 : AV) (h : AHeap) : wire_Reader_End_fn call n [t0] h = wire_Reader_End call n t0 h :=
  rfl
theorem wire_Reader_End_holds {call : CallF} (hc : SaysAll Try.prog call) (n : Nat) : Holds Try.prog 31 (wire_Reader_End_fn call n) := by
  intro args h r h2 e
  unfold wire_Reader_End_fn at e
  split at e
  · exact wire_Reader_End_ok hc e
  · cases e

noncomputable def wire_Reader_U8 (call : CallF) (_ : Nat) (t0 : AV) (h : AHeap) : R :=
  callN (call 55 [t0, .int .i64 1] h) fun r4 h_3 =>
  obind (avInt .u64 r4) fun t4 =>
  lett (IntKind.u8.wrap t4) fun (t5 : Int) =>
  some (.ret (.int .u8 t5), h_3)
set_option maxHeartbeats 4000000 in
set_option maxRecDepth 20000 in
theorem wire_Reader_U8_ok {call : CallF} (hc : SaysAll Try.prog call) {n : Nat} {t0 : AV} {h : AHeap} {rR : ARes} {hR : AHeap} (hF : wire_Reader_U8 call n t0 h = some (rR, hR)) : Says Try.prog 46 [t0] h rR hR := by
  unfold wire_Reader_U8 at hF
  refine says_of (fn := Try.f46) Try.func46 (c := codeOf Try.f46) (by kernel_rfl) (by kernel_rfl) (fun w0 m0 => ?_)
  refine W.weaken (l' := [(0, t0)]) (Fr.c Fr.n) ?_
  refine W.s (fun K1 n1 e1 q1 p1 => ?_)
  refine W.r ?_
  refine WL.a (some 2) (.int .u8 0) h ?_
  refine WL.n ?_
  refine Go.weaken (l' := [(0, t0)]) (Fr.c Fr.n) ?_
  refine n1 ?_
  refine W.s (fun K2 n2 e2 q2 p2 => ?_)
  refine W.r ?_
  refine WL.a (some 3) t0 h ?_
  replace hF := callN_some hF; obtain ⟨r4, h_3, e4, hF⟩ := hF
  replace hF := obind_some hF; obtain ⟨t4, c5, hF⟩ := hF
  have c5 := avInt_some c5
  subst c5
  refine WL.c (hc.ok w0) (some 4) e4 ?_
  replace hF := lett_some hF; obtain ⟨t5, e6, hF⟩ := hF
  refine WL.val (d := (some 5)) (v := .int .u8 t5) (h' := h_3) (by kernel_rfl) (by kernel_rfl) (val_of (AV.int .u8) e6 (by kernel_rfl)) ?_
  refine WL.a (some 2) (.int .u8 t5) h_3 ?_
  refine WL.n ?_
  refine Go.weaken (l' := [(2, .int .u8 t5)]) (Fr.c Fr.n) ?_
  refine n2 ?_
  refine W.ret (by kernel_rfl) ?_
  obtain ⟨hF, hF2⟩ := ret_inj hF; subst hF; subst hF2
  exact leave_of (rs := [.tmp 2]) (vs := [.int .u8 t5]) (by kernel_rfl) (res_tmp (by kernel_rfl) res_nil) (by kernel_rfl)
noncomputable def wire_Reader_U8_fn (call : CallF) (n : Nat) : FnT := fun args h => match args with
  | [x0] => wire_Reader_U8 call n x0 h
  | _ => none
set_option maxRecDepth 100000 in
theorem wire_Reader_U8_fn_eq (call : CallF) (n : Nat) (t0 : AV) (h : AHeap) : wire_Reader_U8_fn call n [t0] h = wire_Reader_U8 call n t0 h :=
  rfl
theorem wire_Reader_U8_holds {call : CallF} (hc : SaysAll Try.prog call) (n : Nat) : Holds Try.prog 46 (wire_Reader_U8_fn call n) := by
  intro args h r h2 e
  unfold wire_Reader_U8_fn at e
  split at e
  · exact wire_Reader_U8_ok hc e
  · cases e

noncomputable def wire_Reader_U64 (call : CallF) (_ : Nat) (t0 : AV) (h : AHeap) : R :=
  callN (call 55 [t0, .int .i64 8] h) fun r4 h_3 =>
  obind (avInt .u64 r4) fun t4 =>
  some (.ret (.int .u64 t4), h_3)
set_option maxHeartbeats 4000000 in
set_option maxRecDepth 20000 in
theorem wire_Reader_U64_ok {call : CallF} (hc : SaysAll Try.prog call) {n : Nat} {t0 : AV} {h : AHeap} {rR : ARes} {hR : AHeap} (hF : wire_Reader_U64 call n t0 h = some (rR, hR)) : Says Try.prog 47 [t0] h rR hR := by
  unfold wire_Reader_U64 at hF
  refine says_of (fn := Try.f47) Try.func47 (c := codeOf Try.f47) (by kernel_rfl) (by kernel_rfl) (fun w0 m0 => ?_)
  refine W.weaken (l' := [(0, t0)]) (Fr.c Fr.n) ?_
  refine W.s (fun K1 n1 e1 q1 p1 => ?_)
  refine W.r ?_
  refine WL.a (some 2) (.int .u64 0) h ?_
  refine WL.n ?_
  refine Go.weaken (l' := [(0, t0)]) (Fr.c Fr.n) ?_
  refine n1 ?_
  refine W.s (fun K2 n2 e2 q2 p2 => ?_)
  refine W.r ?_
  refine WL.a (some 3) t0 h ?_
  replace hF := callN_some hF; obtain ⟨r4, h_3, e4, hF⟩ := hF
  replace hF := obind_some hF; obtain ⟨t4, c5, hF⟩ := hF
  have c5 := avInt_some c5
  subst c5
  refine WL.c (hc.ok w0) (some 4) e4 ?_
  refine WL.a (some 2) (.int .u64 t4) h_3 ?_
  refine WL.n ?_
  refine Go.weaken (l' := [(2, .int .u64 t4)]) (Fr.c Fr.n) ?_
  refine n2 ?_
  refine W.ret (by kernel_rfl) ?_
  obtain ⟨hF, hF2⟩ := ret_inj hF; subst hF; subst hF2
  exact leave_of (rs := [.tmp 2]) (vs := [.int .u64 t4]) (by kernel_rfl) (res_tmp (by kernel_rfl) res_nil) (by kernel_rfl)
noncomputable def wire_Reader_U64_fn (call : CallF) (n : Nat) : FnT := fun args h => match args with
  | [x0] => wire_Reader_U64 call n x0 h
  | _ => none
set_option maxRecDepth 100000 in
theorem wire_Reader_U64_fn_eq (call : CallF) (n : Nat) (t0 : AV) (h : AHeap) : wire_Reader_U64_fn call n [t0] h = wire_Reader_U64 call n t0 h :=
  rfl
theorem wire_Reader_U64_holds {call : CallF} (hc : SaysAll Try.prog call) (n : Nat) : Holds Try.prog 47 (wire_Reader_U64_fn call n) := by
  intro args h r h2 e
  unfold wire_Reader_U64_fn at e
  split at e
  · exact wire_Reader_U64_ok hc e
  · cases e

noncomputable def wire_Reader_Bool (call : CallF) (_ : Nat) (t0 : AV) (h : AHeap) : R :=
  callN (call 46 [t0] h) fun r5 h_3 =>
  obind (avInt .u8 r5) fun t5 =>
  lett (decide (t5 > 1)) fun (t7 : Bool) =>
  lett (fun  (h_10 : AHeap) =>
    lett ((t5 : Int) == 1) fun (t16 : Bool) =>
    some (.ret (.bool t16), h_10)) fun k9 =>
  ifB t7
  (
    obind (nilC t0) fun t10 =>
    obind (fldP 1 t10) fun t11 =>
    obind (ldCell h_3 t11) fun v12 =>
    obind (avInt .i64 v12) fun t12 =>
    lett (IntKind.i64.wrap (t12 - 1)) fun (t13 : Int) =>
    callN (call 56 [t0, .int .i64 7, .int .i64 t13] h_3) fun _ h_18 =>
    k9 h_18)
  (
    k9 h_3)
set_option maxHeartbeats 4000000 in
set_option maxRecDepth 20000 in
theorem wire_Reader_Bool_ok {call : CallF} (hc : SaysAll Try.prog call) {n : Nat} {t0 : AV} {h : AHeap} {rR : ARes} {hR : AHeap} (hF : wire_Reader_Bool call n t0 h = some (rR, hR)) : Says Try.prog 48 [t0] h rR hR := by
  unfold wire_Reader_Bool at hF
  refine says_of (fn := Try.f48) Try.func48 (c := codeOf Try.f48) (by kernel_rfl) (by kernel_rfl) (fun w0 m0 => ?_)
  refine W.weaken (l' := [(0, t0)]) (Fr.c Fr.n) ?_
  refine W.s (fun K1 n1 e1 q1 p1 => ?_)
  refine W.r ?_
  refine WL.a (some 2) (.bool false) h ?_
  refine WL.n ?_
  refine Go.weaken (l' := [(0, t0)]) (Fr.c Fr.n) ?_
  refine n1 ?_
  refine W.s (fun K2 n2 e2 q2 p2 => ?_)
  refine W.r ?_
  refine WL.a (some 4) t0 h ?_
  replace hF := callN_some hF; obtain ⟨r5, h_3, e4, hF⟩ := hF
  replace hF := obind_some hF; obtain ⟨t5, c5, hF⟩ := hF
  have c5 := avInt_some c5
  subst c5
  refine WL.c (hc.ok w0) (some 5) e4 ?_
  refine WL.a (some 3) (.int .u8 t5) h_3 ?_
  refine WL.n ?_
  refine Go.weaken (l' := [(0, t0), (3, .int .u8 t5)]) (Fr.c (Fr.c Fr.n)) ?_
  refine n2 ?_
  refine W.s (fun K6 n6 e6 q6 p6 => ?_)
  refine W.s (fun K7 n7 e7 q7 p7 => ?_)
  refine W.r ?_
  refine WL.a (some 6) (.int .u8 t5) h_3 ?_
  replace hF := lett_some hF; obtain ⟨t7, e8, hF⟩ := hF
  refine WL.val (d := (some 7)) (v := .bool t7) (h' := h_3) (by kernel_rfl) (by kernel_rfl) (val_of AV.bool e8 (by kernel_rfl)) ?_
  refine WL.n ?_
  refine Go.weaken (l' := [(0, t0), (3, .int .u8 t5), (7, .bool t7)]) (Fr.c (Fr.c (Fr.c Fr.n))) ?_
  refine n7 ?_
  replace hF := lett_some hF; obtain ⟨k9, e9, hF⟩ := hF
  have J9 : ∀  (h_10 : AHeap), k9 h_10 = some (rR, hR) → Go w0 m0 (Func.ntmps Try.f48) (K6 .normal) [(3, .int .u8 t5)] [] h_10 := by
    intro  h_10 hF
    rw [e9] at hF
    refine n6 ?_
    refine W.s (fun K11 n11 e11 q11 p11 => ?_)
    refine W.r ?_
    refine WL.a (some 15) (.int .u8 t5) h_10 ?_
    replace hF := lett_some hF; obtain ⟨t16, e12, hF⟩ := hF
    refine WL.val (d := (some 16)) (v := .bool t16) (h' := h_10) (by kernel_rfl) (by kernel_rfl) (val_of AV.bool e12 (by kernel_rfl)) ?_
    refine WL.a (some 2) (.bool t16) h_10 ?_
    refine WL.n ?_
    refine Go.weaken (l' := [(2, .bool t16)]) (Fr.c Fr.n) ?_
    refine n11 ?_
    refine W.ret (by kernel_rfl) ?_
    obtain ⟨hF, hF2⟩ := ret_inj hF; subst hF; subst hF2
    exact leave_of (rs := [.tmp 2]) (vs := [.bool t16]) (by kernel_rfl) (res_tmp (by kernel_rfl) res_nil) (by kernel_rfl)
  cases t7 with
  | true =>
    replace hF := ifB_t hF
    refine W.t ?_
    refine W.r ?_
    refine WL.a (some 8) t0 h_3 ?_
    refine WL.a (some 9) t0 h_3 ?_
    replace hF := obind_some hF; obtain ⟨t10, e13, hF⟩ := hF
    refine WL.b (some 10) t10 h_3 (nil_chk (h := h_3) e13) ?_
    replace hF := obind_some hF; obtain ⟨t11, e14, hF⟩ := hF
    refine WL.b (some 11) t11 h_3 (field_ptr (P := Try.prog) (h := h_3) (s := 95) (f := 1) (by kernel_rfl) e14) ?_
    replace hF := obind_some hF; obtain ⟨v12, e15, hF⟩ := hF
    replace hF := obind_some hF; obtain ⟨t12, c16, hF⟩ := hF
    have c16 := avInt_some c16
    subst c16
    refine WL.b (some 12) (.int .i64 t12) h_3 (load_cell (P := Try.prog) (h := h_3) (t := 3) (by kernel_rfl) e15) ?_
    replace hF := lett_some hF; obtain ⟨t13, e17, hF⟩ := hF
    refine WL.val (d := (some 13)) (v := .int .i64 t13) (h' := h_3) (by kernel_rfl) (by kernel_rfl) (val_of (AV.int .i64) e17 (by kernel_rfl)) ?_
    replace hF := callN_some hF; obtain ⟨r14, h_18, e19, hF⟩ := hF
    refine WL.c (hc.ok w0) (some 14) e19 ?_
    refine WL.n ?_
    refine Go.weaken (l' := [(3, .int .u8 t5)]) (Fr.c Fr.n) ?_
    exact Go.weaken (Fr.c Fr.n) (J9 _ hF)
  | false =>
    replace hF := ifB_f hF
    refine W.f ?_
    refine W.skip (by kernel_rfl) ?_
    exact Go.weaken (Fr.c Fr.n) (J9 _ hF)
noncomputable def wire_Reader_Bool_fn (call : CallF) (n : Nat) : FnT := fun args h => match args with
  | [x0] => wire_Reader_Bool call n x0 h
  | _ => none
set_option maxRecDepth 100000 in
theorem wire_Reader_Bool_fn_eq (call : CallF) (n : Nat) (t0 : AV) (h : AHeap) : wire_Reader_Bool_fn call n [t0] h = wire_Reader_Bool call n t0 h :=
  rfl
theorem wire_Reader_Bool_holds {call : CallF} (hc : SaysAll Try.prog call) (n : Nat) : Holds Try.prog 48 (wire_Reader_Bool_fn call n) := by
  intro args h r h2 e
  unfold wire_Reader_Bool_fn at e
  split at e
  · exact wire_Reader_Bool_ok hc e
  · cases e

noncomputable def wire_Reader_U32 (call : CallF) (_ : Nat) (t0 : AV) (h : AHeap) : R :=
  callN (call 55 [t0, .int .i64 4] h) fun r4 h_3 =>
  obind (avInt .u64 r4) fun t4 =>
  lett (IntKind.u32.wrap t4) fun (t5 : Int) =>
  some (.ret (.int .u32 t5), h_3)
set_option maxHeartbeats 4000000 in
set_option maxRecDepth 20000 in
theorem wire_Reader_U32_ok {call : CallF} (hc : SaysAll Try.prog call) {n : Nat} {t0 : AV} {h : AHeap} {rR : ARes} {hR : AHeap} (hF : wire_Reader_U32 call n t0 h = some (rR, hR)) : Says Try.prog 49 [t0] h rR hR := by
  unfold wire_Reader_U32 at hF
  refine says_of (fn := Try.f49) Try.func49 (c := codeOf Try.f49) (by kernel_rfl) (by kernel_rfl) (fun w0 m0 => ?_)
  refine W.weaken (l' := [(0, t0)]) (Fr.c Fr.n) ?_
  refine W.s (fun K1 n1 e1 q1 p1 => ?_)
  refine W.r ?_
  refine WL.a (some 2) (.int .u32 0) h ?_
  refine WL.n ?_
  refine Go.weaken (l' := [(0, t0)]) (Fr.c Fr.n) ?_
  refine n1 ?_
  refine W.s (fun K2 n2 e2 q2 p2 => ?_)
  refine W.r ?_
  refine WL.a (some 3) t0 h ?_
  replace hF := callN_some hF; obtain ⟨r4, h_3, e4, hF⟩ := hF
  replace hF := obind_some hF; obtain ⟨t4, c5, hF⟩ := hF
  have c5 := avInt_some c5
  subst c5
  refine WL.c (hc.ok w0) (some 4) e4 ?_
  replace hF := lett_some hF; obtain ⟨t5, e6, hF⟩ := hF
  refine WL.val (d := (some 5)) (v := .int .u32 t5) (h' := h_3) (by kernel_rfl) (by kernel_rfl) (val_of (AV.int .u32) e6 (by kernel_rfl)) ?_
  refine WL.a (some 2) (.int .u32 t5) h_3 ?_
  refine WL.n ?_
  refine Go.weaken (l' := [(2, .int .u32 t5)]) (Fr.c Fr.n) ?_
  refine n2 ?_
  refine W.ret (by kernel_rfl) ?_
  obtain ⟨hF, hF2⟩ := ret_inj hF; subst hF; subst hF2
  exact leave_of (rs := [.tmp 2]) (vs := [.int .u32 t5]) (by kernel_rfl) (res_tmp (by kernel_rfl) res_nil) (by kernel_rfl)
noncomputable def wire_Reader_U32_fn (call : CallF) (n : Nat) : FnT := fun args h => match args with
  | [x0] => wire_Reader_U32 call n x0 h
  | _ => none
set_option maxRecDepth 100000 in
theorem wire_Reader_U32_fn_eq (call : CallF) (n : Nat) (t0 : AV) (h : AHeap) : wire_Reader_U32_fn call n [t0] h = wire_Reader_U32 call n t0 h :=
  rfl
theorem wire_Reader_U32_holds {call : CallF} (hc : SaysAll Try.prog call) (n : Nat) : Holds Try.prog 49 (wire_Reader_U32_fn call n) := by
  intro args h r h2 e
  unfold wire_Reader_U32_fn at e
  split at e
  · exact wire_Reader_U32_ok hc e
  · cases e

noncomputable def wire_Reader_Text (call : CallF) (_ : Nat) (t0 : AV) (t1 : Int) (h : AHeap) : R :=
  callN (call 57 [t0, .int .i64 t1] h) fun r12 h_3 =>
  obind (extT 0 r12) fun v13 =>
  obind (avInt .u32 v13) fun t13 =>
  obind (extT 1 r12) fun v14 =>
  obind (avInt .i64 v14) fun t14 =>
  obind (extT 2 r12) fun v15 =>
  obind (avBool v15) fun t15 =>
  lett (!t15) fun (t17 : Bool) =>
  ifB t17
  (
    some (.ret (strA ([] : Bytes)), h_3))
  (
    lett (IntKind.i64.wrap t13) fun (t19 : Int) =>
    obind (nilC t0) fun t21 =>
    obind (fldP 0 t21) fun t22 =>
    obind (ldCell h_3 t22) fun v23 =>
    obind (avStr v23) fun t23 =>
    obind (nilC t0) fun t26 =>
    obind (fldP 1 t26) fun t27 =>
    obind (ldCell h_3 t27) fun v28 =>
    obind (avInt .i64 v28) fun t28 =>
    lett (IntKind.i64.wrap ((lenS t23) - t28)) fun (t29 : Int) =>
    lett (decide (t19 > t29)) fun (t30 : Bool) =>
    ifB t30
    (
      callN (call 56 [t0, .int .i64 7, .int .i64 t14] h_3) fun _ h_29 =>
      some (.ret (strA ([] : Bytes)), h_29))
    (
      obind (nilC t0) fun t35 =>
      obind (fldP 1 t35) fun t36 =>
      obind (ldCell h_3 t36) fun v37 =>
      obind (avInt .i64 v37) fun t37 =>
      obind (nilC t0) fun t39 =>
      obind (fldP 1 t39) fun t40 =>
      obind (ldCell h_3 t40) fun v41 =>
      obind (avInt .i64 v41) fun t41 =>
      lett (IntKind.i64.wrap t13) fun (t43 : Int) =>
      lett (IntKind.i64.wrap (t41 + t43)) fun (t44 : Int) =>
      obind (nilC t0) fun t45 =>
      obind (fldP 1 t45) fun t46 =>
      obind (stRow h_3 1 [.int .i64 t44] t46) fun h_46 =>
      obind (nilC t0) fun t48 =>
      obind (fldP 0 t48) fun t49 =>
      obind (ldCell h_46 t49) fun v50 =>
      obind (avStr v50) fun t50 =>
      obind (nilC t0) fun t53 =>
      obind (fldP 1 t53) fun t54 =>
      obind (ldCell h_46 t54) fun v55 =>
      obind (avInt .i64 v55) fun t55 =>
      obind (sliceS t50 t37 t55) fun t56 =>
      some (.ret (strA t56), h_46)))
set_option maxHeartbeats 4000000 in
set_option maxRecDepth 20000 in
theorem wire_Reader_Text_ok {call : CallF} (hc : SaysAll Try.prog call) {n : Nat} {t0 : AV} {t1 : Int} {h : AHeap} {rR : ARes} {hR : AHeap} (hF : wire_Reader_Text call n t0 t1 h = some (rR, hR)) : Says Try.prog 50 [t0, .int .i64 t1] h rR hR := by
  unfold wire_Reader_Text at hF
  refine says_of (fn := Try.f50) Try.func50 (c := codeOf Try.f50) (by kernel_rfl) (by kernel_rfl) (fun w0 m0 => ?_)
  refine W.weaken (l' := [(0, t0), (1, .int .i64 t1)]) (Fr.c (Fr.c Fr.n)) ?_
  refine W.s (fun K1 n1 e1 q1 p1 => ?_)
  refine W.r ?_
  refine WL.a (some 4) (strA ([] : Bytes)) h ?_
  refine WL.n ?_
  refine Go.weaken (l' := [(0, t0), (1, .int .i64 t1)]) (Fr.c (Fr.c Fr.n)) ?_
  refine n1 ?_
  refine W.s (fun K2 n2 e2 q2 p2 => ?_)
  refine W.r ?_
  refine WL.a (some 10) t0 h ?_
  refine WL.a (some 11) (.int .i64 t1) h ?_
  replace hF := callN_some hF; obtain ⟨r12, h_3, e4, hF⟩ := hF
  refine WL.c (hc.ok w0) (some 12) e4 ?_
  refine WL.a (some 9) r12 h_3 ?_
  replace hF := obind_some hF; obtain ⟨v13, e5, hF⟩ := hF
  replace hF := obind_some hF; obtain ⟨t13, c6, hF⟩ := hF
  have c6 := avInt_some c6
  subst c6
  refine WL.b (some 13) (.int .u32 t13) h_3 (extract_tup (h := h_3) e5) ?_
  replace hF := obind_some hF; obtain ⟨v14, e7, hF⟩ := hF
  replace hF := obind_some hF; obtain ⟨t14, c8, hF⟩ := hF
  have c8 := avInt_some c8
  subst c8
  refine WL.b (some 14) (.int .i64 t14) h_3 (extract_tup (h := h_3) e7) ?_
  replace hF := obind_some hF; obtain ⟨v15, e9, hF⟩ := hF
  replace hF := obind_some hF; obtain ⟨t15, c10, hF⟩ := hF
  have c10 := avBool_some c10
  subst c10
  refine WL.b (some 15) (.bool t15) h_3 (extract_tup (h := h_3) e9) ?_
  refine WL.a (some 5) (.int .u32 t13) h_3 ?_
  refine WL.a (some 6) (.int .i64 t14) h_3 ?_
  refine WL.a (some 7) (.bool t15) h_3 ?_
  refine WL.n ?_
  refine Go.weaken (l' := [(0, t0), (5, .int .u32 t13), (6, .int .i64 t14), (7, .bool t15)]) (Fr.c (Fr.c (Fr.c (Fr.c Fr.n)))) ?_
  refine n2 ?_
  refine W.s (fun K11 n11 e11 q11 p11 => ?_)
  refine W.s (fun K12 n12 e12 q12 p12 => ?_)
  refine W.r ?_
  refine WL.a (some 16) (.bool t15) h_3 ?_
  replace hF := lett_some hF; obtain ⟨t17, e13, hF⟩ := hF
  refine WL.val (d := (some 17)) (v := .bool t17) (h' := h_3) (by kernel_rfl) (by kernel_rfl) (val_of AV.bool e13 (by kernel_rfl)) ?_
  refine WL.n ?_
  refine Go.weaken (l' := [(0, t0), (5, .int .u32 t13), (6, .int .i64 t14), (17, .bool t17)]) (Fr.c (Fr.c (Fr.c (Fr.c Fr.n)))) ?_
  refine n12 ?_
  cases t17 with
  | true =>
    replace hF := ifB_t hF
    refine W.t ?_
    refine W.s (fun K14 n14 e14 q14 p14 => ?_)
    refine W.r ?_
    refine WL.a (some 4) (strA ([] : Bytes)) h_3 ?_
    refine WL.n ?_
    refine Go.weaken (l' := [(4, strA ([] : Bytes))]) (Fr.c Fr.n) ?_
    refine n14 ?_
    refine W.ret (by kernel_rfl) ?_
    refine q11 ?_
    obtain ⟨hF, hF2⟩ := ret_inj hF; subst hF; subst hF2
    exact leave_of (rs := [.tmp 4]) (vs := [strA ([] : Bytes)]) (by kernel_rfl) (res_tmp (by kernel_rfl) res_nil) (by kernel_rfl)
  | false =>
    replace hF := ifB_f hF
    refine W.f ?_
    refine W.skip (by kernel_rfl) ?_
    refine n11 ?_
    refine W.s (fun K15 n15 e15 q15 p15 => ?_)
    refine W.s (fun K16 n16 e16 q16 p16 => ?_)
    refine W.draw (by kernel_rfl) (hc.ok w0) (plan := [0, 1, 2, 3, 4, 5, 6, 7, 8, 9, 10, 11, 12]) (by kernel_rfl) (by kernel_rfl) (by kernel_rfl) ?_
    refine WD.a 0 (some 18) (.int .u32 t13) h_3 ?_
    replace hF := lett_some hF; obtain ⟨t19, e17, hF⟩ := hF
    refine WD.val (d := (some 19)) (v := .int .i64 t19) (h' := h_3) (by kernel_rfl) (by kernel_rfl) (val_of (AV.int .i64) e17 (by kernel_rfl)) (k := 0) (by kernel_rfl) (fun e => absurd e (by decide)) (by decide) ?_
    refine WD.a 0 (some 20) t0 h_3 ?_
    replace hF := obind_some hF; obtain ⟨t21, e18, hF⟩ := hF
    refine WD.b 0 (some 21) t21 h_3 (nil_chk (h := h_3) e18) ?_
    replace hF := obind_some hF; obtain ⟨t22, e19, hF⟩ := hF
    refine WD.b 0 (some 22) t22 h_3 (field_ptr (P := Try.prog) (h := h_3) (s := 95) (f := 0) (by kernel_rfl) e19) ?_
    replace hF := obind_some hF; obtain ⟨v23, e20, hF⟩ := hF
    replace hF := obind_some hF; obtain ⟨t23, c21, hF⟩ := hF
    have c21 := avStr_some c21
    subst c21
    refine WD.b 1 (some 23) (strA t23) h_3 (load_cell (P := Try.prog) (h := h_3) (t := 9) (by kernel_rfl) e20) ?_
    refine WD.a 0 (some 24) (.int .i64 (lenS t23)) h_3 ?_
    refine WD.a 0 (some 25) t0 h_3 ?_
    replace hF := obind_some hF; obtain ⟨t26, e22, hF⟩ := hF
    refine WD.b 0 (some 26) t26 h_3 (nil_chk (h := h_3) e22) ?_
    replace hF := obind_some hF; obtain ⟨t27, e23, hF⟩ := hF
    refine WD.b 0 (some 27) t27 h_3 (field_ptr (P := Try.prog) (h := h_3) (s := 95) (f := 1) (by kernel_rfl) e23) ?_
    replace hF := obind_some hF; obtain ⟨v28, e24, hF⟩ := hF
    replace hF := obind_some hF; obtain ⟨t28, c25, hF⟩ := hF
    have c25 := avInt_some c25
    subst c25
    refine WD.b 1 (some 28) (.int .i64 t28) h_3 (load_cell (P := Try.prog) (h := h_3) (t := 3) (by kernel_rfl) e24) ?_
    replace hF := lett_some hF; obtain ⟨t29, e26, hF⟩ := hF
    refine WD.val (d := (some 29)) (v := .int .i64 t29) (h' := h_3) (by kernel_rfl) (by kernel_rfl) (val_of (AV.int .i64) e26 (by kernel_rfl)) (k := 0) (by kernel_rfl) (fun e => absurd e (by decide)) (by decide) ?_
    replace hF := lett_some hF; obtain ⟨t30, e27, hF⟩ := hF
    refine WD.val (d := (some 30)) (v := .bool t30) (h' := h_3) (by kernel_rfl) (by kernel_rfl) (val_of AV.bool e27 (by kernel_rfl)) (k := 0) (by kernel_rfl) (fun e => absurd e (by decide)) (by decide) ?_
    refine WD.nil ?_
    refine Go.weaken (l' := [(0, t0), (5, .int .u32 t13), (6, .int .i64 t14), (30, .bool t30)]) (Fr.c (Fr.c (Fr.c (Fr.c Fr.n)))) ?_
    refine n16 ?_
    cases t30 with
    | true =>
      replace hF := ifB_t hF
      refine W.t ?_
      refine W.s (fun K28 n28 e28 q28 p28 => ?_)
      refine W.r ?_
      refine WL.a (some 31) t0 h_3 ?_
      refine WL.a (some 32) (.int .i64 t14) h_3 ?_
      replace hF := callN_some hF; obtain ⟨r33, h_29, e30, hF⟩ := hF
      refine WL.c (hc.ok w0) (some 33) e30 ?_
      refine WL.n ?_
      refine Go.weaken (l' := []) Fr.n ?_
      refine n28 ?_
      refine W.s (fun K31 n31 e31 q31 p31 => ?_)
      refine W.r ?_
      refine WL.a (some 4) (strA ([] : Bytes)) h_29 ?_
      refine WL.n ?_
      refine Go.weaken (l' := [(4, strA ([] : Bytes))]) (Fr.c Fr.n) ?_
      refine n31 ?_
      refine W.ret (by kernel_rfl) ?_
      refine q15 ?_
      obtain ⟨hF, hF2⟩ := ret_inj hF; subst hF; subst hF2
      exact leave_of (rs := [.tmp 4]) (vs := [strA ([] : Bytes)]) (by kernel_rfl) (res_tmp (by kernel_rfl) res_nil) (by kernel_rfl)
    | false =>
      replace hF := ifB_f hF
      refine W.f ?_
      refine W.skip (by kernel_rfl) ?_
      refine n15 ?_
      refine W.s (fun K32 n32 e32 q32 p32 => ?_)
      refine W.r ?_
      refine WL.a (some 34) t0 h_3 ?_
      replace hF := obind_some hF; obtain ⟨t35, e33, hF⟩ := hF
      refine WL.b (some 35) t35 h_3 (nil_chk (h := h_3) e33) ?_
      replace hF := obind_some hF; obtain ⟨t36, e34, hF⟩ := hF
      refine WL.b (some 36) t36 h_3 (field_ptr (P := Try.prog) (h := h_3) (s := 95) (f := 1) (by kernel_rfl) e34) ?_
      replace hF := obind_some hF; obtain ⟨v37, e35, hF⟩ := hF
      replace hF := obind_some hF; obtain ⟨t37, c36, hF⟩ := hF
      have c36 := avInt_some c36
      subst c36
      refine WL.b (some 37) (.int .i64 t37) h_3 (load_cell (P := Try.prog) (h := h_3) (t := 3) (by kernel_rfl) e35) ?_
      refine WL.a (some 8) (.int .i64 t37) h_3 ?_
      refine WL.n ?_
      refine Go.weaken (l' := [(0, t0), (5, .int .u32 t13), (8, .int .i64 t37)]) (Fr.c (Fr.c (Fr.c Fr.n))) ?_
      refine n32 ?_
      refine W.s (fun K37 n37 e37 q37 p37 => ?_)
      refine W.r ?_
      refine WL.a (some 38) t0 h_3 ?_
      replace hF := obind_some hF; obtain ⟨t39, e38, hF⟩ := hF
      refine WL.b (some 39) t39 h_3 (nil_chk (h := h_3) e38) ?_
      replace hF := obind_some hF; obtain ⟨t40, e39, hF⟩ := hF
      refine WL.b (some 40) t40 h_3 (field_ptr (P := Try.prog) (h := h_3) (s := 95) (f := 1) (by kernel_rfl) e39) ?_
      replace hF := obind_some hF; obtain ⟨v41, e40, hF⟩ := hF
      replace hF := obind_some hF; obtain ⟨t41, c41, hF⟩ := hF
      have c41 := avInt_some c41
      subst c41
      refine WL.b (some 41) (.int .i64 t41) h_3 (load_cell (P := Try.prog) (h := h_3) (t := 3) (by kernel_rfl) e40) ?_
      refine WL.a (some 42) (.int .u32 t13) h_3 ?_
      replace hF := lett_some hF; obtain ⟨t43, e42, hF⟩ := hF
      refine WL.val (d := (some 43)) (v := .int .i64 t43) (h' := h_3) (by kernel_rfl) (by kernel_rfl) (val_of (AV.int .i64) e42 (by kernel_rfl)) ?_
      replace hF := lett_some hF; obtain ⟨t44, e43, hF⟩ := hF
      refine WL.val (d := (some 44)) (v := .int .i64 t44) (h' := h_3) (by kernel_rfl) (by kernel_rfl) (val_of (AV.int .i64) e43 (by kernel_rfl)) ?_
      replace hF := obind_some hF; obtain ⟨t45, e44, hF⟩ := hF
      refine WL.b (some 45) t45 h_3 (nil_chk (h := h_3) e44) ?_
      replace hF := obind_some hF; obtain ⟨t46, e45, hF⟩ := hF
      refine WL.b (some 46) t46 h_3 (field_ptr (P := Try.prog) (h := h_3) (s := 95) (f := 1) (by kernel_rfl) e45) ?_
      replace hF := obind_some hF; obtain ⟨h_46, e47, hF⟩ := hF
      refine WL.e h_46 (store_row (P := Try.prog) (h := h_3) (t := 3) (v := (.int .i64 t44)) (by kernel_rfl) (by kernel_rfl) e47) ?_
      refine WL.n ?_
      refine Go.weaken (l' := [(0, t0), (8, .int .i64 t37)]) (Fr.c (Fr.c Fr.n)) ?_
      refine n37 ?_
      refine W.s (fun K48 n48 e48 q48 p48 => ?_)
      refine W.draw (by kernel_rfl) (hc.ok w0) (plan := [0, 1, 2, 3, 4, 5, 6, 7, 8, 9, 10]) (by kernel_rfl) (by kernel_rfl) (by kernel_rfl) ?_
      refine WD.a 0 (some 47) t0 h_46 ?_
      replace hF := obind_some hF; obtain ⟨t48, e49, hF⟩ := hF
      refine WD.b 0 (some 48) t48 h_46 (nil_chk (h := h_46) e49) ?_
      replace hF := obind_some hF; obtain ⟨t49, e50, hF⟩ := hF
      refine WD.b 0 (some 49) t49 h_46 (field_ptr (P := Try.prog) (h := h_46) (s := 95) (f := 0) (by kernel_rfl) e50) ?_
      replace hF := obind_some hF; obtain ⟨v50, e51, hF⟩ := hF
      replace hF := obind_some hF; obtain ⟨t50, c52, hF⟩ := hF
      have c52 := avStr_some c52
      subst c52
      refine WD.b 1 (some 50) (strA t50) h_46 (load_cell (P := Try.prog) (h := h_46) (t := 9) (by kernel_rfl) e51) ?_
      refine WD.a 0 (some 51) (.int .i64 t37) h_46 ?_
      refine WD.a 0 (some 52) t0 h_46 ?_
      replace hF := obind_some hF; obtain ⟨t53, e53, hF⟩ := hF
      refine WD.b 0 (some 53) t53 h_46 (nil_chk (h := h_46) e53) ?_
      replace hF := obind_some hF; obtain ⟨t54, e54, hF⟩ := hF
      refine WD.b 0 (some 54) t54 h_46 (field_ptr (P := Try.prog) (h := h_46) (s := 95) (f := 1) (by kernel_rfl) e54) ?_
      replace hF := obind_some hF; obtain ⟨v55, e55, hF⟩ := hF
      replace hF := obind_some hF; obtain ⟨t55, c56, hF⟩ := hF
      have c56 := avInt_some c56
      subst c56
      refine WD.b 1 (some 55) (.int .i64 t55) h_46 (load_cell (P := Try.prog) (h := h_46) (t := 3) (by kernel_rfl) e55) ?_
      replace hF := obind_some hF; obtain ⟨t56, e57, hF⟩ := hF
      refine WD.b 0 (some 56) (strA t56) h_46 (slice_str (P := Try.prog) (h := h_46) (t := 9) (A := (some (.int .i64 t37))) (B := (some (.int .i64 t55))) (by kernel_rfl) (.inl ⟨_, rfl⟩) (.inl ⟨_, rfl⟩) e57) ?_
      refine WD.a 0 (some 4) (strA t56) h_46 ?_
      refine WD.nil ?_
      refine Go.weaken (l' := [(4, strA t56)]) (Fr.c Fr.n) ?_
      refine n48 ?_
      refine W.ret (by kernel_rfl) ?_
      obtain ⟨hF, hF2⟩ := ret_inj hF; subst hF; subst hF2
      exact leave_of (rs := [.tmp 4]) (vs := [strA t56]) (by kernel_rfl) (res_tmp (by kernel_rfl) res_nil) (by kernel_rfl)
noncomputable def wire_Reader_Text_fn (call : CallF) (n : Nat) : FnT := fun args h => match args with
  | [x0, x1] => obind (avInt .i64 x1) fun t1 => wire_Reader_Text call n x0 t1 h
  | _ => none
set_option maxRecDepth 100000 in
theorem wire_Reader_Text_fn_eq (call : CallF) (n : Nat) (t0 : AV) (t1 : Int) (h : AHeap) : wire_Reader_Text_fn call n [t0, .int .i64 t1] h = wire_Reader_Text call n t0 t1 h :=
  (Eq.trans (obind_eq (fun t1 => wire_Reader_Text call n t0 t1 h) (avInt_int .i64 t1)) rfl)
theorem wire_Reader_Text_holds {call : CallF} (hc : SaysAll Try.prog call) (n : Nat) : Holds Try.prog 50 (wire_Reader_Text_fn call n) := by
  intro args h r h2 e
  unfold wire_Reader_Text_fn at e
  split at e
  · replace e := obind_some e; obtain ⟨t1, c1, e⟩ := e; have c1 := avInt_some c1; subst c1
    exact wire_Reader_Text_ok hc e
  · cases e

noncomputable def wire_Reader_whole (_ : CallF) (_ : Nat) (t0 : AV) (h : AHeap) : R :=
  outK (opBin Try.prog h .neq 72 true (some t0) (some AV.nilp)) fun v4 h_3 =>
  obind (avBool v4) fun t4 =>
  lett (fun (t12 : Bool) (h_6 : AHeap) =>
    some (.ret (.bool t12), h_6)) fun j12 =>
  ifB t4
  (
    obind (nilC t0) fun t7 =>
    obind (fldP 2 t7) fun t8 =>
    obind (fldP 0 t8) fun t9 =>
    obind (ldCell h_3 t9) fun v10 =>
    obind (avInt .i64 v10) fun t10 =>
    lett ((t10 : Int) == 0) fun (t11 : Bool) =>
    j12 t11 h_3)
  (
    j12 false h_3)
set_option maxHeartbeats 4000000 in
set_option maxRecDepth 20000 in
theorem wire_Reader_whole_ok {call : CallF} (_ : SaysAll Try.prog call) {n : Nat} {t0 : AV} {h : AHeap} {rR : ARes} {hR : AHeap} (hF : wire_Reader_whole call n t0 h = some (rR, hR)) : Says Try.prog 51 [t0] h rR hR := by
  unfold wire_Reader_whole at hF
  refine says_of (fn := Try.f51) Try.func51 (c := codeOf Try.f51) (by kernel_rfl) (by kernel_rfl) (fun w0 m0 => ?_)
  refine W.weaken (l' := [(0, t0)]) (Fr.c Fr.n) ?_
  refine W.s (fun K1 n1 e1 q1 p1 => ?_)
  refine W.r ?_
  refine WL.a (some 2) (.bool false) h ?_
  refine WL.n ?_
  refine Go.weaken (l' := [(0, t0)]) (Fr.c Fr.n) ?_
  refine n1 ?_
  refine W.s (fun K2 n2 e2 q2 p2 => ?_)
  refine W.r ?_
  refine WL.a (some 3) t0 h ?_
  replace hF := outK_some hF; obtain ⟨v4, h_3, e4, hF⟩ := hF
  replace hF := obind_some hF; obtain ⟨t4, c5, hF⟩ := hF
  have c5 := avBool_some c5
  subst c5
  refine WL.b (some 4) (.bool t4) h_3 e4 ?_
  refine WL.a (some 5) (.bool t4) h_3 ?_
  replace hF := lett_some hF; obtain ⟨j12, e7, hF⟩ := hF
  have J8 : ∀ (t12 : Bool) (h_6 : AHeap), j12 t12 h_6 = some (rR, hR) → WL Try.prog w0 m0 (Func.ntmps Try.f51) (Code.ops (Code.p1 (Code.p2 (codeOf Try.f51)))) 10 K2 [(12, .bool t12)] [] h_6 := by
    intro t12 h_6 hF
    rw [e7] at hF
    refine WL.a (some 2) (.bool t12) h_6 ?_
    refine WL.n ?_
    refine Go.weaken (l' := [(2, .bool t12)]) (Fr.c Fr.n) ?_
    refine n2 ?_
    refine W.ret (by kernel_rfl) ?_
    obtain ⟨hF, hF2⟩ := ret_inj hF; subst hF; subst hF2
    exact leave_of (rs := [.tmp 2]) (vs := [.bool t12]) (by kernel_rfl) (res_tmp (by kernel_rfl) res_nil) (by kernel_rfl)
  cases t4 with
  | true =>
    replace hF := ifB_t hF
    refine WL.a (some 6) t0 h_3 ?_
    replace hF := obind_some hF; obtain ⟨t7, e9, hF⟩ := hF
    refine WL.b (some 7) t7 h_3 (nil_chk (h := h_3) e9) ?_
    replace hF := obind_some hF; obtain ⟨t8, e10, hF⟩ := hF
    refine WL.b (some 8) t8 h_3 (field_ptr (P := Try.prog) (h := h_3) (s := 95) (f := 2) (by kernel_rfl) e10) ?_
    replace hF := obind_some hF; obtain ⟨t9, e11, hF⟩ := hF
    refine WL.b (some 9) t9 h_3 (field_ptr (P := Try.prog) (h := h_3) (s := 33) (f := 0) (by kernel_rfl) e11) ?_
    replace hF := obind_some hF; obtain ⟨v10, e12, hF⟩ := hF
    replace hF := obind_some hF; obtain ⟨t10, c13, hF⟩ := hF
    have c13 := avInt_some c13
    subst c13
    refine WL.b (some 10) (.int .i64 t10) h_3 (load_cell (P := Try.prog) (h := h_3) (t := 23) (by kernel_rfl) e12) ?_
    replace hF := lett_some hF; obtain ⟨t11, e14, hF⟩ := hF
    refine WL.val (d := (some 11)) (v := .bool t11) (h' := h_3) (by kernel_rfl) (by kernel_rfl) (val_of AV.bool e14 (by kernel_rfl)) ?_
    refine WL.a (some 12) (.bool t11) h_3 ?_
    exact WL.weaken (Fr.c Fr.n) (J8 _ _ hF)
  | false =>
    replace hF := ifB_f hF
    refine WL.o (some 6) ?_
    refine WL.o (some 7) ?_
    refine WL.o (some 8) ?_
    refine WL.o (some 9) ?_
    refine WL.o (some 10) ?_
    refine WL.o (some 11) ?_
    refine WL.a (some 12) (.bool false) h_3 ?_
    exact WL.weaken (Fr.c Fr.n) (J8 _ _ hF)
noncomputable def wire_Reader_whole_fn (call : CallF) (n : Nat) : FnT := fun args h => match args with
  | [x0] => wire_Reader_whole call n x0 h
  | _ => none
set_option maxRecDepth 100000 in
theorem wire_Reader_whole_fn_eq (call : CallF) (n : Nat) (t0 : AV) (h : AHeap) : wire_Reader_whole_fn call n [t0] h = wire_Reader_whole call n t0 h :=
  rfl
theorem wire_Reader_whole_holds {call : CallF} (hc : SaysAll Try.prog call) (n : Nat) : Holds Try.prog 51 (wire_Reader_whole_fn call n) := by
  intro args h r h2 e
  unfold wire_Reader_whole_fn at e
  split at e
  · exact wire_Reader_whole_ok hc e
  · cases e

noncomputable def wire_Reader_Fault (_ : CallF) (_ : Nat) (t0 : AV) (h : AHeap) : R :=
  lett (newH h 33 [.int .i64 0, .int .i64 0]) fun h_2 =>
  outK (opBin Try.prog h_2 .eql 72 true (some t0) (some AV.nilp)) fun v4 h_6 =>
  obind (avBool v4) fun t4 =>
  ifB t4
  (
    obind (stRow h_6 2 ([.int .i64 1, .int .i64 0] : List AV) (newP h)) fun h_10 =>
    obind (ldRow h_10 2 (newP h)) fun w2 =>
    some (.ret (.agg w2), h_10))
  (
    obind (nilC t0) fun t7 =>
    obind (fldP 2 t7) fun t8 =>
    obind (ldRow h_6 2 t8) fun t9 =>
    obind (stRow h_6 2 t9 (newP h)) fun h_17 =>
    obind (ldRow h_17 2 (newP h)) fun w2_20 =>
    some (.ret (.agg w2_20), h_17))
set_option maxHeartbeats 4000000 in
set_option maxRecDepth 20000 in
theorem wire_Reader_Fault_ok {call : CallF} (_ : SaysAll Try.prog call) {n : Nat} {t0 : AV} {h : AHeap} {rR : ARes} {hR : AHeap} (hF : wire_Reader_Fault call n t0 h = some (rR, hR)) : Says Try.prog 52 [t0] h rR hR := by
  unfold wire_Reader_Fault at hF
  refine says_of (fn := Try.f52) Try.func52 (c := codeOf Try.f52) (by kernel_rfl) (by kernel_rfl) (fun w0 m0 => ?_)
  refine W.weaken (l' := [(0, t0)]) (Fr.c Fr.n) ?_
  refine W.s (fun K1 n1 e1 q1 p1 => ?_)
  refine W.r ?_
  replace hF := lett_some hF; obtain ⟨h_2, e3, hF⟩ := hF
  refine WL.val (d := (some 2)) (v := (newP h)) (h' := h_2) (by kernel_rfl) (by kernel_rfl) (val_ofH e3 (by kernel_rfl)) ?_
  refine WL.n ?_
  refine Go.weaken (l' := [(0, t0), (2, (newP h))]) (Fr.c (Fr.c Fr.n)) ?_
  refine n1 ?_
  refine W.s (fun K4 n4 e4 q4 p4 => ?_)
  refine W.s (fun K5 n5 e5 q5 p5 => ?_)
  refine W.r ?_
  refine WL.a (some 3) t0 h_2 ?_
  replace hF := outK_some hF; obtain ⟨v4, h_6, e7, hF⟩ := hF
  replace hF := obind_some hF; obtain ⟨t4, c8, hF⟩ := hF
  have c8 := avBool_some c8
  subst c8
  refine WL.b (some 4) (.bool t4) h_6 e7 ?_
  refine WL.n ?_
  refine Go.weaken (l' := [(0, t0), (2, (newP h)), (4, .bool t4)]) (Fr.c (Fr.c (Fr.c Fr.n))) ?_
  refine n5 ?_
  cases t4 with
  | true =>
    replace hF := ifB_t hF
    refine W.t ?_
    refine W.s (fun K9 n9 e9 q9 p9 => ?_)
    refine W.r ?_
    refine WL.a (some 5) (.agg ([.int .i64 1, .int .i64 0] : List AV)) h_6 ?_
    replace hF := obind_some hF; obtain ⟨h_10, e11, hF⟩ := hF
    refine WL.e h_10 (store_row (P := Try.prog) (h := h_6) (t := 33) (v := (.agg ([.int .i64 1, .int .i64 0] : List AV))) (by kernel_rfl) (by kernel_rfl) e11) ?_
    refine WL.n ?_
    refine Go.weaken (l' := [(2, (newP h))]) (Fr.c Fr.n) ?_
    refine n9 ?_
    refine W.ret (by kernel_rfl) ?_
    refine q4 ?_
    replace hF := obind_some hF; obtain ⟨w2, e12, hF⟩ := hF
    obtain ⟨hF, hF2⟩ := ret_inj hF; subst hF; subst hF2
    exact leave_of (rs := [.cell 2 33]) (vs := [.agg w2]) (by kernel_rfl) (res_cell (by kernel_rfl) (load_row (P := Try.prog) (h := h_10) (t := 33) (by kernel_rfl) (by kernel_rfl) e12) res_nil) (by kernel_rfl)
  | false =>
    replace hF := ifB_f hF
    refine W.f ?_
    refine W.skip (by kernel_rfl) ?_
    refine n4 ?_
    refine W.s (fun K13 n13 e13 q13 p13 => ?_)
    refine W.r ?_
    refine WL.a (some 6) t0 h_6 ?_
    replace hF := obind_some hF; obtain ⟨t7, e14, hF⟩ := hF
    refine WL.b (some 7) t7 h_6 (nil_chk (h := h_6) e14) ?_
    replace hF := obind_some hF; obtain ⟨t8, e15, hF⟩ := hF
    refine WL.b (some 8) t8 h_6 (field_ptr (P := Try.prog) (h := h_6) (s := 95) (f := 2) (by kernel_rfl) e15) ?_
    replace hF := obind_some hF; obtain ⟨t9, e16, hF⟩ := hF
    refine WL.b (some 9) (.agg t9) h_6 (load_row (P := Try.prog) (h := h_6) (t := 33) (by kernel_rfl) (by kernel_rfl) e16) ?_
    replace hF := obind_some hF; obtain ⟨h_17, e18, hF⟩ := hF
    refine WL.e h_17 (store_row (P := Try.prog) (h := h_6) (t := 33) (v := (.agg t9)) (by kernel_rfl) (by kernel_rfl) e18) ?_
    refine WL.n ?_
    refine Go.weaken (l' := [(2, (newP h))]) (Fr.c Fr.n) ?_
    refine n13 ?_
    refine W.ret (by kernel_rfl) ?_
    replace hF := obind_some hF; obtain ⟨w2_20, e19, hF⟩ := hF
    obtain ⟨hF, hF2⟩ := ret_inj hF; subst hF; subst hF2
    exact leave_of (rs := [.cell 2 33]) (vs := [.agg w2_20]) (by kernel_rfl) (res_cell (by kernel_rfl) (load_row (P := Try.prog) (h := h_17) (t := 33) (by kernel_rfl) (by kernel_rfl) e19) res_nil) (by kernel_rfl)
noncomputable def wire_Reader_Fault_fn (call : CallF) (n : Nat) : FnT := fun args h => match args with
  | [x0] => wire_Reader_Fault call n x0 h
  | _ => none
set_option maxRecDepth 100000 in
theorem wire_Reader_Fault_fn_eq (call : CallF) (n : Nat) (t0 : AV) (h : AHeap) : wire_Reader_Fault_fn call n [t0] h = wire_Reader_Fault call n t0 h :=
  rfl
theorem wire_Reader_Fault_holds {call : CallF} (hc : SaysAll Try.prog call) (n : Nat) : Holds Try.prog 52 (wire_Reader_Fault_fn call n) := by
  intro args h r h2 e
  unfold wire_Reader_Fault_fn at e
  split at e
  · exact wire_Reader_Fault_ok hc e
  · cases e

noncomputable def wire_Reader_number_L0b (t0 : AV) (t1 : Int) (k33 : Int → AHeap → R) (self : Int → Int → AHeap → R) (t5_37 : Int) (t28 : Int) (h_38 : AHeap) : R :=
  lett (decide (t28 < t1)) fun (t29 : Bool) =>
  ifB t29
  (
    obind (shlI .u64 t5_37 8) fun t31 =>
    obind (nilC t0) fun t33 =>
    obind (fldP 0 t33) fun t34 =>
    obind (ldCell h_38 t34) fun v35 =>
    obind (avStr v35) fun t35 =>
    obind (nilC t0) fun t37 =>
    obind (fldP 1 t37) fun t38 =>
    obind (ldCell h_38 t38) fun v39 =>
    obind (avInt .i64 v39) fun t39 =>
    obind (idxS t35 t39) fun t40 =>
    lett (IntKind.u64.wrap t40) fun (t41 : Int) =>
    lett (orI .u64 t31 t41) fun (t42 : Int) =>
    obind (nilC t0) fun t44 =>
    obind (fldP 1 t44) fun t45 =>
    obind (ldCell h_38 t45) fun v46 =>
    obind (avInt .i64 v46) fun t46 =>
    lett (IntKind.i64.wrap (t46 + 1)) fun (t47 : Int) =>
    obind (nilC t0) fun t48 =>
    obind (fldP 1 t48) fun t49 =>
    obind (stRow h_38 1 [.int .i64 t47] t49) fun h_64 =>
    lett (IntKind.i64.wrap (t28 + 1)) fun (t50 : Int) =>
    self t42 t50 h_64)
  (
    k33 t5_37 h_38)
noncomputable def wire_Reader_number_L0 (t0 : AV) (t1 : Int) (k33 : Int → AHeap → R) : Nat → Int → Int → AHeap → R := iterR (fun _ _ _ => none) (wire_Reader_number_L0b t0 t1 k33)
theorem wire_Reader_number_L0_s (t0 : AV) (t1 : Int) (k33 : Int → AHeap → R) (m : Nat) : wire_Reader_number_L0 t0 t1 k33 (m + 1) = wire_Reader_number_L0b t0 t1 k33 (wire_Reader_number_L0 t0 t1 k33 m) := rfl
noncomputable def wire_Reader_number (call : CallF) (n : Nat) (t0 : AV) (t1 : Int) (h : AHeap) : R :=
  callN (call 51 [t0] h) fun r7 h_4 =>
  obind (avBool r7) fun t7 =>
  lett (!t7) fun (t8 : Bool) =>
  ifB t8
  (
    some (.ret (.int .u64 0), h_4))
  (
    obind (nilC t0) fun t10 =>
    obind (fldP 0 t10) fun t11 =>
    obind (ldCell h_4 t11) fun v12 =>
    obind (avStr v12) fun t12 =>
    obind (nilC t0) fun t15 =>
    obind (fldP 1 t15) fun t16 =>
    obind (ldCell h_4 t16) fun v17 =>
    obind (avInt .i64 v17) fun t17 =>
    lett (IntKind.i64.wrap ((lenS t12) - t17)) fun (t18 : Int) =>
    lett (decide (t18 < t1)) fun (t20 : Bool) =>
    ifB t20
    (
      obind (nilC t0) fun t23 =>
      obind (fldP 1 t23) fun t24 =>
      obind (ldCell h_4 t24) fun v25 =>
      obind (avInt .i64 v25) fun t25 =>
      callN (call 56 [t0, .int .i64 7, .int .i64 t25] h_4) fun _ h_26 =>
      some (.ret (.int .u64 0), h_26))
    (
      lett (fun (t5 : Int) (h_34 : AHeap) =>
        some (.ret (.int .u64 t5), h_34)) fun k33 =>
      wire_Reader_number_L0 t0 t1 k33 n 0 0 h_4))
set_option maxHeartbeats 4000000 in
set_option maxRecDepth 20000 in
theorem wire_Reader_number_ok {call : CallF} (hc : SaysAll Try.prog call) {n : Nat} {t0 : AV} {t1 : Int} {h : AHeap} {rR : ARes} {hR : AHeap} (hF : wire_Reader_number call n t0 t1 h = some (rR, hR)) : Says Try.prog 55 [t0, .int .i64 t1] h rR hR := by
  unfold wire_Reader_number at hF
  refine says_of (fn := Try.f55) Try.func55 (c := codeOf Try.f55) (by kernel_rfl) (by kernel_rfl) (fun w0 m0 => ?_)
  refine W.weaken (l' := [(0, t0), (1, .int .i64 t1)]) (Fr.c (Fr.c Fr.n)) ?_
  refine W.s (fun K1 n1 e1 q1 p1 => ?_)
  refine W.r ?_
  refine WL.a (some 4) (.int .u64 0) h ?_
  refine WL.n ?_
  refine Go.weaken (l' := [(0, t0), (1, .int .i64 t1)]) (Fr.c (Fr.c Fr.n)) ?_
  refine n1 ?_
  refine W.s (fun K2 n2 e2 q2 p2 => ?_)
  refine W.s (fun K3 n3 e3 q3 p3 => ?_)
  refine W.r ?_
  refine WL.a (some 6) t0 h ?_
  replace hF := callN_some hF; obtain ⟨r7, h_4, e5, hF⟩ := hF
  replace hF := obind_some hF; obtain ⟨t7, c6, hF⟩ := hF
  have c6 := avBool_some c6
  subst c6
  refine WL.c (hc.ok w0) (some 7) e5 ?_
  replace hF := lett_some hF; obtain ⟨t8, e7, hF⟩ := hF
  refine WL.val (d := (some 8)) (v := .bool t8) (h' := h_4) (by kernel_rfl) (by kernel_rfl) (val_of AV.bool e7 (by kernel_rfl)) ?_
  refine WL.n ?_
  refine Go.weaken (l' := [(0, t0), (1, .int .i64 t1), (8, .bool t8)]) (Fr.c (Fr.c (Fr.c Fr.n))) ?_
  refine n3 ?_
  cases t8 with
  | true =>
    replace hF := ifB_t hF
    refine W.t ?_
    refine W.s (fun K8 n8 e8 q8 p8 => ?_)
    refine W.r ?_
    refine WL.a (some 4) (.int .u64 0) h_4 ?_
    refine WL.n ?_
    refine Go.weaken (l' := [(4, .int .u64 0)]) (Fr.c Fr.n) ?_
    refine n8 ?_
    refine W.ret (by kernel_rfl) ?_
    refine q2 ?_
    obtain ⟨hF, hF2⟩ := ret_inj hF; subst hF; subst hF2
    exact leave_of (rs := [.tmp 4]) (vs := [.int .u64 0]) (by kernel_rfl) (res_tmp (by kernel_rfl) res_nil) (by kernel_rfl)
  | false =>
    replace hF := ifB_f hF
    refine W.f ?_
    refine W.skip (by kernel_rfl) ?_
    refine n2 ?_
    refine W.s (fun K9 n9 e9 q9 p9 => ?_)
    refine W.s (fun K10 n10 e10 q10 p10 => ?_)
    refine W.draw (by kernel_rfl) (hc.ok w0) (plan := [0, 1, 2, 3, 4, 5, 6, 7, 8, 9, 10, 11]) (by kernel_rfl) (by kernel_rfl) (by kernel_rfl) ?_
    refine WD.a 0 (some 9) t0 h_4 ?_
    replace hF := obind_some hF; obtain ⟨t10, e11, hF⟩ := hF
    refine WD.b 0 (some 10) t10 h_4 (nil_chk (h := h_4) e11) ?_
    replace hF := obind_some hF; obtain ⟨t11, e12, hF⟩ := hF
    refine WD.b 0 (some 11) t11 h_4 (field_ptr (P := Try.prog) (h := h_4) (s := 95) (f := 0) (by kernel_rfl) e12) ?_
    replace hF := obind_some hF; obtain ⟨v12, e13, hF⟩ := hF
    replace hF := obind_some hF; obtain ⟨t12, c14, hF⟩ := hF
    have c14 := avStr_some c14
    subst c14
    refine WD.b 1 (some 12) (strA t12) h_4 (load_cell (P := Try.prog) (h := h_4) (t := 9) (by kernel_rfl) e13) ?_
    refine WD.a 0 (some 13) (.int .i64 (lenS t12)) h_4 ?_
    refine WD.a 0 (some 14) t0 h_4 ?_
    replace hF := obind_some hF; obtain ⟨t15, e15, hF⟩ := hF
    refine WD.b 0 (some 15) t15 h_4 (nil_chk (h := h_4) e15) ?_
    replace hF := obind_some hF; obtain ⟨t16, e16, hF⟩ := hF
    refine WD.b 0 (some 16) t16 h_4 (field_ptr (P := Try.prog) (h := h_4) (s := 95) (f := 1) (by kernel_rfl) e16) ?_
    replace hF := obind_some hF; obtain ⟨v17, e17, hF⟩ := hF
    replace hF := obind_some hF; obtain ⟨t17, c18, hF⟩ := hF
    have c18 := avInt_some c18
    subst c18
    refine WD.b 1 (some 17) (.int .i64 t17) h_4 (load_cell (P := Try.prog) (h := h_4) (t := 3) (by kernel_rfl) e17) ?_
    replace hF := lett_some hF; obtain ⟨t18, e19, hF⟩ := hF
    refine WD.val (d := (some 18)) (v := .int .i64 t18) (h' := h_4) (by kernel_rfl) (by kernel_rfl) (val_of (AV.int .i64) e19 (by kernel_rfl)) (k := 0) (by kernel_rfl) (fun e => absurd e (by decide)) (by decide) ?_
    refine WD.a 0 (some 19) (.int .i64 t1) h_4 ?_
    replace hF := lett_some hF; obtain ⟨t20, e20, hF⟩ := hF
    refine WD.val (d := (some 20)) (v := .bool t20) (h' := h_4) (by kernel_rfl) (by kernel_rfl) (val_of AV.bool e20 (by kernel_rfl)) (k := 0) (by kernel_rfl) (fun e => absurd e (by decide)) (by decide) ?_
    refine WD.nil ?_
    refine Go.weaken (l' := [(0, t0), (1, .int .i64 t1), (20, .bool t20)]) (Fr.c (Fr.c (Fr.c Fr.n))) ?_
    refine n10 ?_
    cases t20 with
    | true =>
      replace hF := ifB_t hF
      refine W.t ?_
      refine W.s (fun K21 n21 e21 q21 p21 => ?_)
      refine W.r ?_
      refine WL.a (some 21) t0 h_4 ?_
      refine WL.a (some 22) t0 h_4 ?_
      replace hF := obind_some hF; obtain ⟨t23, e22, hF⟩ := hF
      refine WL.b (some 23) t23 h_4 (nil_chk (h := h_4) e22) ?_
      replace hF := obind_some hF; obtain ⟨t24, e23, hF⟩ := hF
      refine WL.b (some 24) t24 h_4 (field_ptr (P := Try.prog) (h := h_4) (s := 95) (f := 1) (by kernel_rfl) e23) ?_
      replace hF := obind_some hF; obtain ⟨v25, e24, hF⟩ := hF
      replace hF := obind_some hF; obtain ⟨t25, c25, hF⟩ := hF
      have c25 := avInt_some c25
      subst c25
      refine WL.b (some 25) (.int .i64 t25) h_4 (load_cell (P := Try.prog) (h := h_4) (t := 3) (by kernel_rfl) e24) ?_
      replace hF := callN_some hF; obtain ⟨r26, h_26, e27, hF⟩ := hF
      refine WL.c (hc.ok w0) (some 26) e27 ?_
      refine WL.n ?_
      refine Go.weaken (l' := []) Fr.n ?_
      refine n21 ?_
      refine W.s (fun K28 n28 e28 q28 p28 => ?_)
      refine W.r ?_
      refine WL.a (some 4) (.int .u64 0) h_26 ?_
      refine WL.n ?_
      refine Go.weaken (l' := [(4, .int .u64 0)]) (Fr.c Fr.n) ?_
      refine n28 ?_
      refine W.ret (by kernel_rfl) ?_
      refine q9 ?_
      obtain ⟨hF, hF2⟩ := ret_inj hF; subst hF; subst hF2
      exact leave_of (rs := [.tmp 4]) (vs := [.int .u64 0]) (by kernel_rfl) (res_tmp (by kernel_rfl) res_nil) (by kernel_rfl)
    | false =>
      replace hF := ifB_f hF
      refine W.f ?_
      refine W.skip (by kernel_rfl) ?_
      refine n9 ?_
      refine W.s (fun K29 n29 e29 q29 p29 => ?_)
      refine W.r ?_
      refine WL.a (some 5) (.int .u64 0) h_4 ?_
      refine WL.n ?_
      refine Go.weaken (l' := [(0, t0), (1, .int .i64 t1), (5, .int .u64 0)]) (Fr.c (Fr.c (Fr.c Fr.n))) ?_
      refine n29 ?_
      refine W.s (fun K30 n30 e30 q30 p30 => ?_)
      refine W.s (fun K31 n31 e31 q31 p31 => ?_)
      refine W.r ?_
      refine WL.a (some 27) (.int .i64 t1) h_4 ?_
      refine WL.a (some 28) (.int .i64 0) h_4 ?_
      refine WL.n ?_
      refine Go.weaken (l' := [(0, t0), (5, .int .u64 0), (27, .int .i64 t1), (28, .int .i64 0)]) (Fr.c (Fr.c (Fr.c (Fr.c Fr.n)))) ?_
      refine n31 ?_
      replace hF := lett_some hF; obtain ⟨k33, e33, hF⟩ := hF
      have J33 : ∀ (t5 : Int) (h_34 : AHeap), k33 t5 h_34 = some (rR, hR) → Go w0 m0 (Func.ntmps Try.f55) (K30 .normal) [(5, .int .u64 t5)] [] h_34 := by
        intro t5 h_34 hF
        rw [e33] at hF
        refine n30 ?_
        refine W.s (fun K35 n35 e35 q35 p35 => ?_)
        refine W.r ?_
        refine WL.a (some 51) (.int .u64 t5) h_34 ?_
        refine WL.a (some 4) (.int .u64 t5) h_34 ?_
        refine WL.n ?_
        refine Go.weaken (l' := [(4, .int .u64 t5)]) (Fr.c Fr.n) ?_
        refine n35 ?_
        refine W.ret (by kernel_rfl) ?_
        obtain ⟨hF, hF2⟩ := ret_inj hF; subst hF; subst hF2
        exact leave_of (rs := [.tmp 4]) (vs := [.int .u64 t5]) (by kernel_rfl) (res_tmp (by kernel_rfl) res_nil) (by kernel_rfl)
      refine W.blockK (by kernel_rfl) (fun K32 n32 s32 o32 q32 p32 => ?_)
      refine W.loopK (by kernel_rfl) (fun I36 K36 b36 n36 e36 q36 p36 => ?_)
      have L36 : ∀ (m : Nat) (t5_37 : Int) (t28 : Int) (h_38 : AHeap), wire_Reader_number_L0 t0 t1 k33 m t5_37 t28 h_38 = some (rR, hR) → Go w0 m0 (Func.ntmps Try.f55) I36 [(0, t0), (5, .int .u64 t5_37), (27, .int .i64 t1), (28, .int .i64 t28)] [] h_38 := by
        intro m
        induction m with
        | zero => intro t5_37 t28 h_38 hF; cases hF
        | succ m ih36 =>
          intro t5_37 t28 h_38 hF
          rw [wire_Reader_number_L0_s] at hF; unfold wire_Reader_number_L0b at hF
          refine b36 ?_
          refine W.s (fun K39 n39 e39 q39 p39 => ?_)
          refine W.r ?_
          replace hF := lett_some hF; obtain ⟨t29, e40, hF⟩ := hF
          refine WL.val (d := (some 29)) (v := .bool t29) (h' := h_38) (by kernel_rfl) (by kernel_rfl) (val_of AV.bool e40 (by kernel_rfl)) ?_
          refine WL.n ?_
          refine Go.weaken (l' := [(0, t0), (5, .int .u64 t5_37), (27, .int .i64 t1), (28, .int .i64 t28), (29, .bool t29)]) (Fr.c (Fr.c (Fr.c (Fr.c (Fr.c Fr.n))))) ?_
          refine n39 ?_
          refine W.s (fun K41 n41 e41 q41 p41 => ?_)
          cases t29 with
          | true =>
            replace hF := ifB_t hF
            refine W.t ?_
            refine W.skip (by kernel_rfl) ?_
            refine n41 ?_
            refine W.s (fun K42 n42 e42 q42 p42 => ?_)
            refine W.blockK (by kernel_rfl) (fun K43 n43 s43 o43 q43 p43 => ?_)
            refine W.s (fun K44 n44 e44 q44 p44 => ?_)
            refine W.draw (by kernel_rfl) (hc.ok w0) (plan := [0, 1, 2, 3, 4, 5, 6, 7, 8, 9, 10, 11, 12, 13]) (by kernel_rfl) (by kernel_rfl) (by kernel_rfl) ?_
            refine WD.a 0 (some 30) (.int .u64 t5_37) h_38 ?_
            replace hF := obind_some hF; obtain ⟨t31, e45, hF⟩ := hF
            refine WD.b 0 (some 31) (.int .u64 t31) h_38 (shl_int (P := Try.prog) (h := h_38) (t := 66) (k' := .u64) (lit := true) e45) ?_
            refine WD.a 0 (some 32) t0 h_38 ?_
            replace hF := obind_some hF; obtain ⟨t33, e46, hF⟩ := hF
            refine WD.b 0 (some 33) t33 h_38 (nil_chk (h := h_38) e46) ?_
            replace hF := obind_some hF; obtain ⟨t34, e47, hF⟩ := hF
            refine WD.b 0 (some 34) t34 h_38 (field_ptr (P := Try.prog) (h := h_38) (s := 95) (f := 0) (by kernel_rfl) e47) ?_
            replace hF := obind_some hF; obtain ⟨v35, e48, hF⟩ := hF
            replace hF := obind_some hF; obtain ⟨t35, c49, hF⟩ := hF
            have c49 := avStr_some c49
            subst c49
            refine WD.b 1 (some 35) (strA t35) h_38 (load_cell (P := Try.prog) (h := h_38) (t := 9) (by kernel_rfl) e48) ?_
            refine WD.a 0 (some 36) t0 h_38 ?_
            replace hF := obind_some hF; obtain ⟨t37, e50, hF⟩ := hF
            refine WD.b 0 (some 37) t37 h_38 (nil_chk (h := h_38) e50) ?_
            replace hF := obind_some hF; obtain ⟨t38, e51, hF⟩ := hF
            refine WD.b 0 (some 38) t38 h_38 (field_ptr (P := Try.prog) (h := h_38) (s := 95) (f := 1) (by kernel_rfl) e51) ?_
            replace hF := obind_some hF; obtain ⟨v39, e52, hF⟩ := hF
            replace hF := obind_some hF; obtain ⟨t39, c53, hF⟩ := hF
            have c53 := avInt_some c53
            subst c53
            refine WD.b 1 (some 39) (.int .i64 t39) h_38 (load_cell (P := Try.prog) (h := h_38) (t := 3) (by kernel_rfl) e52) ?_
            replace hF := obind_some hF; obtain ⟨t40, e54, hF⟩ := hF
            refine WD.b 0 (some 40) (.int .u8 t40) h_38 (index_str (P := Try.prog) (h := h_38) (t := 9) (k := .i64) (by kernel_rfl) e54) ?_
            replace hF := lett_some hF; obtain ⟨t41, e55, hF⟩ := hF
            refine WD.val (d := (some 41)) (v := .int .u64 t41) (h' := h_38) (by kernel_rfl) (by kernel_rfl) (val_of (AV.int .u64) e55 (by kernel_rfl)) (k := 0) (by kernel_rfl) (fun e => absurd e (by decide)) (by decide) ?_
            replace hF := lett_some hF; obtain ⟨t42, e56, hF⟩ := hF
            refine WD.val (d := (some 42)) (v := .int .u64 t42) (h' := h_38) (by kernel_rfl) (by kernel_rfl) (val_of (AV.int .u64) e56 (by kernel_rfl)) (k := 0) (by kernel_rfl) (fun e => absurd e (by decide)) (by decide) ?_
            refine WD.val (d := (some 5)) (v := .int .u64 t42) (h' := h_38) (by kernel_rfl) (by kernel_rfl) (by kernel_rfl) (k := 2) (by kernel_rfl) (fun _ => (by kernel_rfl)) (by decide) ?_
            refine WD.nil ?_
            refine Go.weaken (l' := [(0, t0), (5, .int .u64 t42), (27, .int .i64 t1), (28, .int .i64 t28)]) (Fr.c (Fr.c (Fr.c (Fr.c Fr.n)))) ?_
            refine n44 ?_
            refine W.r ?_
            refine WL.a (some 43) t0 h_38 ?_
            replace hF := obind_some hF; obtain ⟨t44, e57, hF⟩ := hF
            refine WL.b (some 44) t44 h_38 (nil_chk (h := h_38) e57) ?_
            replace hF := obind_some hF; obtain ⟨t45, e58, hF⟩ := hF
            refine WL.b (some 45) t45 h_38 (field_ptr (P := Try.prog) (h := h_38) (s := 95) (f := 1) (by kernel_rfl) e58) ?_
            replace hF := obind_some hF; obtain ⟨v46, e59, hF⟩ := hF
            replace hF := obind_some hF; obtain ⟨t46, c60, hF⟩ := hF
            have c60 := avInt_some c60
            subst c60
            refine WL.b (some 46) (.int .i64 t46) h_38 (load_cell (P := Try.prog) (h := h_38) (t := 3) (by kernel_rfl) e59) ?_
            replace hF := lett_some hF; obtain ⟨t47, e61, hF⟩ := hF
            refine WL.val (d := (some 47)) (v := .int .i64 t47) (h' := h_38) (by kernel_rfl) (by kernel_rfl) (val_of (AV.int .i64) e61 (by kernel_rfl)) ?_
            replace hF := obind_some hF; obtain ⟨t48, e62, hF⟩ := hF
            refine WL.b (some 48) t48 h_38 (nil_chk (h := h_38) e62) ?_
            replace hF := obind_some hF; obtain ⟨t49, e63, hF⟩ := hF
            refine WL.b (some 49) t49 h_38 (field_ptr (P := Try.prog) (h := h_38) (s := 95) (f := 1) (by kernel_rfl) e63) ?_
            replace hF := obind_some hF; obtain ⟨h_64, e65, hF⟩ := hF
            refine WL.e h_64 (store_row (P := Try.prog) (h := h_38) (t := 3) (v := (.int .i64 t47)) (by kernel_rfl) (by kernel_rfl) e65) ?_
            refine WL.n ?_
            refine Go.weaken (l' := [(0, t0), (5, .int .u64 t42), (27, .int .i64 t1), (28, .int .i64 t28)]) (Fr.c (Fr.c (Fr.c (Fr.c Fr.n)))) ?_
            refine n43 ?_
            refine n42 ?_
            refine W.r ?_
            replace hF := lett_some hF; obtain ⟨t50, e66, hF⟩ := hF
            refine WL.val (d := (some 50)) (v := .int .i64 t50) (h' := h_64) (by kernel_rfl) (by kernel_rfl) (val_of (AV.int .i64) e66 (by kernel_rfl)) ?_
            refine WL.a (some 28) (.int .i64 t50) h_64 ?_
            refine WL.n ?_
            refine Go.weaken (l' := [(0, t0), (5, .int .u64 t42), (27, .int .i64 t1), (28, .int .i64 t50)]) (Fr.c (Fr.c (Fr.c (Fr.c Fr.n)))) ?_
            refine n36 ?_
            exact Go.weaken (Fr.c (Fr.c (Fr.c (Fr.c Fr.n)))) (ih36 _ _ _ hF)
          | false =>
            replace hF := ifB_f hF
            refine W.f ?_
            refine W.exit (by kernel_rfl) ?_
            refine e41 ?_
            refine e36 ?_
            refine s32 (by kernel_rfl) ?_
            exact Go.weaken (Fr.c Fr.n) (J33 _ _ hF)
      exact Go.weaken (Fr.c (Fr.c (Fr.c (Fr.c Fr.n)))) (L36 _ _ _ _ hF)
noncomputable def wire_Reader_number_fn (call : CallF) (n : Nat) : FnT := fun args h => match args with
  | [x0, x1] => obind (avInt .i64 x1) fun t1 => wire_Reader_number call n x0 t1 h
  | _ => none
set_option maxRecDepth 100000 in
theorem wire_Reader_number_fn_eq (call : CallF) (n : Nat) (t0 : AV) (t1 : Int) (h : AHeap) : wire_Reader_number_fn call n [t0, .int .i64 t1] h = wire_Reader_number call n t0 t1 h :=
  (Eq.trans (obind_eq (fun t1 => wire_Reader_number call n t0 t1 h) (avInt_int .i64 t1)) rfl)
theorem wire_Reader_number_holds {call : CallF} (hc : SaysAll Try.prog call) (n : Nat) : Holds Try.prog 55 (wire_Reader_number_fn call n) := by
  intro args h r h2 e
  unfold wire_Reader_number_fn at e
  split at e
  · replace e := obind_some e; obtain ⟨t1, c1, e⟩ := e; have c1 := avInt_some c1; subst c1
    exact wire_Reader_number_ok hc e
  · cases e

noncomputable def wire_Reader_fail (_ : CallF) (_ : Nat) (t0 : AV) (t1 : Int) (t2 : Int) (h : AHeap) : R :=
  obind (nilC t0) fun t10 =>
  obind (fldP 2 t10) fun t11 =>
  obind (stRow h 2 ([.int .i64 t1, .int .i64 t2] : List AV) t11) fun h_3 =>
  some (.ret (.tup []), h_3)
set_option maxHeartbeats 4000000 in
set_option maxRecDepth 20000 in
theorem wire_Reader_fail_ok {call : CallF} (_ : SaysAll Try.prog call) {n : Nat} {t0 : AV} {t1 : Int} {t2 : Int} {h : AHeap} {rR : ARes} {hR : AHeap} (hF : wire_Reader_fail call n t0 t1 t2 h = some (rR, hR)) : Says Try.prog 56 [t0, .int .i64 t1, .int .i64 t2] h rR hR := by
  unfold wire_Reader_fail at hF
  refine says_of (fn := Try.f56) Try.func56 (c := codeOf Try.f56) (by kernel_rfl) (by kernel_rfl) (fun w0 m0 => ?_)
  refine W.weaken (l' := [(0, t0), (1, .int .i64 t1), (2, .int .i64 t2)]) (Fr.c (Fr.c (Fr.c Fr.n))) ?_
  refine W.r ?_
  refine WL.a (some 6) t0 h ?_
  refine WL.a (some 7) (.int .i64 t1) h ?_
  refine WL.a (some 8) (.int .i64 t2) h ?_
  refine WL.a (some 9) (.agg ([.int .i64 t1, .int .i64 t2] : List AV)) h ?_
  replace hF := obind_some hF; obtain ⟨t10, e1, hF⟩ := hF
  refine WL.b (some 10) t10 h (nil_chk (h := h) e1) ?_
  replace hF := obind_some hF; obtain ⟨t11, e2, hF⟩ := hF
  refine WL.b (some 11) t11 h (field_ptr (P := Try.prog) (h := h) (s := 95) (f := 2) (by kernel_rfl) e2) ?_
  replace hF := obind_some hF; obtain ⟨h_3, e4, hF⟩ := hF
  refine WL.e h_3 (store_row (P := Try.prog) (h := h) (t := 33) (v := (.agg ([.int .i64 t1, .int .i64 t2] : List AV))) (by kernel_rfl) (by kernel_rfl) e4) ?_
  refine WL.n ?_
  refine Go.weaken (l' := []) Fr.n ?_
  obtain ⟨hF, hF2⟩ := ret_inj hF; subst hF; subst hF2
  exact leaveN_of (rs := []) (vs := []) (by kernel_rfl) res_nil (by kernel_rfl)
noncomputable def wire_Reader_fail_fn (call : CallF) (n : Nat) : FnT := fun args h => match args with
  | [x0, x1, x2] => obind (avInt .i64 x1) fun t1 => obind (avInt .i64 x2) fun t2 => wire_Reader_fail call n x0 t1 t2 h
  | _ => none
set_option maxRecDepth 100000 in
theorem wire_Reader_fail_fn_eq (call : CallF) (n : Nat) (t0 : AV) (t1 : Int) (t2 : Int) (h : AHeap) : wire_Reader_fail_fn call n [t0, .int .i64 t1, .int .i64 t2] h = wire_Reader_fail call n t0 t1 t2 h :=
  (Eq.trans (obind_eq (fun t1 => obind (avInt .i64 (.int .i64 t2)) fun t2 => wire_Reader_fail call n t0 t1 t2 h) (avInt_int .i64 t1)) (Eq.trans (obind_eq (fun t2 => wire_Reader_fail call n t0 t1 t2 h) (avInt_int .i64 t2)) rfl))
theorem wire_Reader_fail_holds {call : CallF} (hc : SaysAll Try.prog call) (n : Nat) : Holds Try.prog 56 (wire_Reader_fail_fn call n) := by
  intro args h r h2 e
  unfold wire_Reader_fail_fn at e
  split at e
  · replace e := obind_some e; obtain ⟨t1, c1, e⟩ := e; have c1 := avInt_some c1; subst c1
    replace e := obind_some e; obtain ⟨t2, c2, e⟩ := e; have c2 := avInt_some c2; subst c2
    exact wire_Reader_fail_ok hc e
  · cases e

noncomputable def wire_Reader_head (call : CallF) (_ : Nat) (t0 : AV) (t1 : Int) (h : AHeap) : R :=
  callN (call 51 [t0] h) fun r8 h_4 =>
  obind (avBool r8) fun t8 =>
  lett (!t8) fun (t9 : Bool) =>
  ifB t9
  (
    some (.ret (.tup [.int .u32 0, .int .i64 0, .bool false]), h_4))
  (
    obind (nilC t0) fun t11 =>
    obind (fldP 1 t11) fun t12 =>
    obind (ldCell h_4 t12) fun v13 =>
    obind (avInt .i64 v13) fun t13 =>
    callN (call 49 [t0] h_4) fun r15 h_15 =>
    obind (avInt .u32 r15) fun t15 =>
    callN (call 51 [t0] h_15) fun r17 h_20 =>
    obind (avBool r17) fun t17 =>
    lett (fun (t23 : Bool) (h_23 : AHeap) =>
      lett (fun  (h_27 : AHeap) =>
        callN (call 51 [t0] h_27) fun r30 h_29 =>
        obind (avBool r30) fun t30 =>
        some (.ret (.tup [.int .u32 t15, .int .i64 t13, .bool t30]), h_29)) fun k26 =>
      ifB t23
      (
        callN (call 56 [t0, .int .i64 3, .int .i64 t13] h_23) fun _ h_32 =>
        k26 h_32)
      (
        k26 h_23)) fun j23 =>
    ifB t17
    (
      lett (IntKind.i64.wrap t15) fun (t20 : Int) =>
      lett (decide (t20 > t1)) fun (t22 : Bool) =>
      j23 t22 h_20)
    (
      j23 false h_20))
set_option maxHeartbeats 4000000 in
set_option maxRecDepth 20000 in
theorem wire_Reader_head_ok {call : CallF} (hc : SaysAll Try.prog call) {n : Nat} {t0 : AV} {t1 : Int} {h : AHeap} {rR : ARes} {hR : AHeap} (hF : wire_Reader_head call n t0 t1 h = some (rR, hR)) : Says Try.prog 57 [t0, .int .i64 t1] h rR hR := by
  unfold wire_Reader_head at hF
  refine says_of (fn := Try.f57) Try.func57 (c := codeOf Try.f57) (by kernel_rfl) (by kernel_rfl) (fun w0 m0 => ?_)
  refine W.weaken (l' := [(0, t0), (1, .int .i64 t1)]) (Fr.c (Fr.c Fr.n)) ?_
  refine W.s (fun K1 n1 e1 q1 p1 => ?_)
  refine W.r ?_
  refine WL.a (some 4) (.int .u32 0) h ?_
  refine WL.a (some 5) (.int .i64 0) h ?_
  refine WL.a (some 6) (.bool false) h ?_
  refine WL.n ?_
  refine Go.weaken (l' := [(0, t0), (1, .int .i64 t1)]) (Fr.c (Fr.c Fr.n)) ?_
  refine n1 ?_
  refine W.s (fun K2 n2 e2 q2 p2 => ?_)
  refine W.s (fun K3 n3 e3 q3 p3 => ?_)
  refine W.r ?_
  refine WL.a (some 7) t0 h ?_
  replace hF := callN_some hF; obtain ⟨r8, h_4, e5, hF⟩ := hF
  replace hF := obind_some hF; obtain ⟨t8, c6, hF⟩ := hF
  have c6 := avBool_some c6
  subst c6
  refine WL.c (hc.ok w0) (some 8) e5 ?_
  replace hF := lett_some hF; obtain ⟨t9, e7, hF⟩ := hF
  refine WL.val (d := (some 9)) (v := .bool t9) (h' := h_4) (by kernel_rfl) (by kernel_rfl) (val_of AV.bool e7 (by kernel_rfl)) ?_
  refine WL.n ?_
  refine Go.weaken (l' := [(0, t0), (1, .int .i64 t1), (9, .bool t9)]) (Fr.c (Fr.c (Fr.c Fr.n))) ?_
  refine n3 ?_
  cases t9 with
  | true =>
    replace hF := ifB_t hF
    refine W.t ?_
    refine W.s (fun K8 n8 e8 q8 p8 => ?_)
    refine W.r ?_
    refine WL.a (some 4) (.int .u32 0) h_4 ?_
    refine WL.a (some 5) (.int .i64 0) h_4 ?_
    refine WL.a (some 6) (.bool false) h_4 ?_
    refine WL.n ?_
    refine Go.weaken (l' := [(4, .int .u32 0), (5, .int .i64 0), (6, .bool false)]) (Fr.c (Fr.c (Fr.c Fr.n))) ?_
    refine n8 ?_
    refine W.ret (by kernel_rfl) ?_
    refine q2 ?_
    obtain ⟨hF, hF2⟩ := ret_inj hF; subst hF; subst hF2
    exact leave_of (rs := [.tmp 4, .tmp 5, .tmp 6]) (vs := [.int .u32 0, .int .i64 0, .bool false]) (by kernel_rfl) (res_tmp (by kernel_rfl) (res_tmp (by kernel_rfl) (res_tmp (by kernel_rfl) res_nil))) (by kernel_rfl)
  | false =>
    replace hF := ifB_f hF
    refine W.f ?_
    refine W.skip (by kernel_rfl) ?_
    refine n2 ?_
    refine W.s (fun K9 n9 e9 q9 p9 => ?_)
    refine W.r ?_
    refine WL.a (some 10) t0 h_4 ?_
    replace hF := obind_some hF; obtain ⟨t11, e10, hF⟩ := hF
    refine WL.b (some 11) t11 h_4 (nil_chk (h := h_4) e10) ?_
    replace hF := obind_some hF; obtain ⟨t12, e11, hF⟩ := hF
    refine WL.b (some 12) t12 h_4 (field_ptr (P := Try.prog) (h := h_4) (s := 95) (f := 1) (by kernel_rfl) e11) ?_
    replace hF := obind_some hF; obtain ⟨v13, e12, hF⟩ := hF
    replace hF := obind_some hF; obtain ⟨t13, c13, hF⟩ := hF
    have c13 := avInt_some c13
    subst c13
    refine WL.b (some 13) (.int .i64 t13) h_4 (load_cell (P := Try.prog) (h := h_4) (t := 3) (by kernel_rfl) e12) ?_
    refine WL.a (some 5) (.int .i64 t13) h_4 ?_
    refine WL.n ?_
    refine Go.weaken (l' := [(0, t0), (1, .int .i64 t1), (5, .int .i64 t13)]) (Fr.c (Fr.c (Fr.c Fr.n))) ?_
    refine n9 ?_
    refine W.s (fun K14 n14 e14 q14 p14 => ?_)
    refine W.r ?_
    refine WL.a (some 14) t0 h_4 ?_
    replace hF := callN_some hF; obtain ⟨r15, h_15, e16, hF⟩ := hF
    replace hF := obind_some hF; obtain ⟨t15, c17, hF⟩ := hF
    have c17 := avInt_some c17
    subst c17
    refine WL.c (hc.ok w0) (some 15) e16 ?_
    refine WL.a (some 4) (.int .u32 t15) h_15 ?_
    refine WL.n ?_
    refine Go.weaken (l' := [(0, t0), (1, .int .i64 t1), (4, .int .u32 t15), (5, .int .i64 t13)]) (Fr.c (Fr.c (Fr.c (Fr.c Fr.n)))) ?_
    refine n14 ?_
    refine W.s (fun K18 n18 e18 q18 p18 => ?_)
    refine W.s (fun K19 n19 e19 q19 p19 => ?_)
    refine W.r ?_
    refine WL.a (some 16) t0 h_15 ?_
    replace hF := callN_some hF; obtain ⟨r17, h_20, e21, hF⟩ := hF
    replace hF := obind_some hF; obtain ⟨t17, c22, hF⟩ := hF
    have c22 := avBool_some c22
    subst c22
    refine WL.c (hc.ok w0) (some 17) e21 ?_
    refine WL.a (some 18) (.bool t17) h_20 ?_
    replace hF := lett_some hF; obtain ⟨j23, e24, hF⟩ := hF
    have J25 : ∀ (t23 : Bool) (h_23 : AHeap), j23 t23 h_23 = some (rR, hR) → WL Try.prog w0 m0 (Func.ntmps Try.f57) (Code.ops (Code.p1 (Code.p1 (Code.p2 (Code.p2 (Code.p2 (Code.p2 (codeOf Try.f57)))))))) 8 K19 [(0, t0), (4, .int .u32 t15), (5, .int .i64 t13), (23, .bool t23)] [] h_23 := by
      intro t23 h_23 hF
      rw [e24] at hF
      refine WL.n ?_
      refine Go.weaken (l' := [(0, t0), (4, .int .u32 t15), (5, .int .i64 t13), (23, .bool t23)]) (Fr.c (Fr.c (Fr.c (Fr.c Fr.n)))) ?_
      refine n19 ?_
      replace hF := lett_some hF; obtain ⟨k26, e26, hF⟩ := hF
      have J26 : ∀  (h_27 : AHeap), k26 h_27 = some (rR, hR) → Go w0 m0 (Func.ntmps Try.f57) (K18 .normal) [(0, t0), (4, .int .u32 t15), (5, .int .i64 t13)] [] h_27 := by
        intro  h_27 hF
        rw [e26] at hF
        refine n18 ?_
        refine W.s (fun K28 n28 e28 q28 p28 => ?_)
        refine W.r ?_
        refine WL.a (some 27) (.int .u32 t15) h_27 ?_
        refine WL.a (some 28) (.int .i64 t13) h_27 ?_
        refine WL.a (some 29) t0 h_27 ?_
        replace hF := callN_some hF; obtain ⟨r30, h_29, e30, hF⟩ := hF
        replace hF := obind_some hF; obtain ⟨t30, c31, hF⟩ := hF
        have c31 := avBool_some c31
        subst c31
        refine WL.c (hc.ok w0) (some 30) e30 ?_
        refine WL.a (some 4) (.int .u32 t15) h_29 ?_
        refine WL.a (some 5) (.int .i64 t13) h_29 ?_
        refine WL.a (some 6) (.bool t30) h_29 ?_
        refine WL.n ?_
        refine Go.weaken (l' := [(4, .int .u32 t15), (5, .int .i64 t13), (6, .bool t30)]) (Fr.c (Fr.c (Fr.c Fr.n))) ?_
        refine n28 ?_
        refine W.ret (by kernel_rfl) ?_
        obtain ⟨hF, hF2⟩ := ret_inj hF; subst hF; subst hF2
        exact leave_of (rs := [.tmp 4, .tmp 5, .tmp 6]) (vs := [.int .u32 t15, .int .i64 t13, .bool t30]) (by kernel_rfl) (res_tmp (by kernel_rfl) (res_tmp (by kernel_rfl) (res_tmp (by kernel_rfl) res_nil))) (by kernel_rfl)
      cases t23 with
      | true =>
        replace hF := ifB_t hF
        refine W.t ?_
        refine W.r ?_
        refine WL.a (some 24) t0 h_23 ?_
        refine WL.a (some 25) (.int .i64 t13) h_23 ?_
        replace hF := callN_some hF; obtain ⟨r26, h_32, e33, hF⟩ := hF
        refine WL.c (hc.ok w0) (some 26) e33 ?_
        refine WL.n ?_
        refine Go.weaken (l' := [(0, t0), (4, .int .u32 t15), (5, .int .i64 t13)]) (Fr.c (Fr.c (Fr.c Fr.n))) ?_
        exact Go.weaken (Fr.c (Fr.c (Fr.c Fr.n))) (J26 _ hF)
      | false =>
        replace hF := ifB_f hF
        refine W.f ?_
        refine W.skip (by kernel_rfl) ?_
        exact Go.weaken (Fr.c (Fr.c (Fr.c Fr.n))) (J26 _ hF)
    cases t17 with
    | true =>
      replace hF := ifB_t hF
      refine WL.a (some 19) (.int .u32 t15) h_20 ?_
      replace hF := lett_some hF; obtain ⟨t20, e34, hF⟩ := hF
      refine WL.val (d := (some 20)) (v := .int .i64 t20) (h' := h_20) (by kernel_rfl) (by kernel_rfl) (val_of (AV.int .i64) e34 (by kernel_rfl)) ?_
      refine WL.a (some 21) (.int .i64 t1) h_20 ?_
      replace hF := lett_some hF; obtain ⟨t22, e35, hF⟩ := hF
      refine WL.val (d := (some 22)) (v := .bool t22) (h' := h_20) (by kernel_rfl) (by kernel_rfl) (val_of AV.bool e35 (by kernel_rfl)) ?_
      refine WL.a (some 23) (.bool t22) h_20 ?_
      exact WL.weaken (Fr.c (Fr.c (Fr.c (Fr.c Fr.n)))) (J25 _ _ hF)
    | false =>
      replace hF := ifB_f hF
      refine WL.o (some 19) ?_
      refine WL.o (some 20) ?_
      refine WL.o (some 21) ?_
      refine WL.o (some 22) ?_
      refine WL.a (some 23) (.bool false) h_20 ?_
      exact WL.weaken (Fr.c (Fr.c (Fr.c (Fr.c Fr.n)))) (J25 _ _ hF)
noncomputable def wire_Reader_head_fn (call : CallF) (n : Nat) : FnT := fun args h => match args with
  | [x0, x1] => obind (avInt .i64 x1) fun t1 => wire_Reader_head call n x0 t1 h
  | _ => none
set_option maxRecDepth 100000 in
theorem wire_Reader_head_fn_eq (call : CallF) (n : Nat) (t0 : AV) (t1 : Int) (h : AHeap) : wire_Reader_head_fn call n [t0, .int .i64 t1] h = wire_Reader_head call n t0 t1 h :=
  (Eq.trans (obind_eq (fun t1 => wire_Reader_head call n t0 t1 h) (avInt_int .i64 t1)) rfl)
theorem wire_Reader_head_holds {call : CallF} (hc : SaysAll Try.prog call) (n : Nat) : Holds Try.prog 57 (wire_Reader_head_fn call n) := by
  intro args h r h2 e
  unfold wire_Reader_head_fn at e
  split at e
  · replace e := obind_some e; obtain ⟨t1, c1, e⟩ := e; have c1 := avInt_some c1; subst c1
    exact wire_Reader_head_ok hc e
  · cases e

end Go.Proofs.Ytmibgiblejpgdaa
