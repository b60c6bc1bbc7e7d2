/- What lexLines_proved stands on, part 6 of 8. -/
import Derived.Test.YtjopejiooipmkaaLtb5
namespace Go.Proofs.Ytjopejiooipmkaa
open Go.RowKit Abs

noncomputable def lex_Lex_L0b (call : CallF) (t0 : Bytes) (h : AHeap) (h_2 : AHeap) (k18 : AHeap → R) (self : AHeap → R) (h_27 : AHeap) : R :=
 obind (ldCell h_27 (AV.ptr (AHeap.next h_2) 1)) fun v13 =>
 obind (avInt .i64 v13) fun t13 =>
 lett (decide (t13 < (lenS t0))) fun (t16 : Bool) =>
 ifB t16
 (
  callN (call 13 [(newP h_2)] h_27) fun r17 h_35 =>
  obind (avAgg r17) fun t17 =>
  lett (newH h_35 27 [.int .i64 0, .int .i64 0]) fun h_38 =>
  obind (stRow h_38 2 t17 (newP h_35)) fun h_40 =>
  obind (ldCell h_40 (AV.ptr (AHeap.next h_35) 0)) fun v19 =>
  obind (avInt .i64 v19) fun t19 =>
  lett ((t19 : Int) != 0) fun (t20 : Bool) =>
  ifB t20
  (
   obind (ldRow h_40 2 (newP h_35)) fun t21 =>
   obind (stRow h_40 2 t21 (newP h)) fun h_48 =>
   obind (ldRow h_48 2 (newP h)) fun w3_51 =>
   some (.ret (.tup [AV.nsl, .agg w3_51]), h_48))
  (
   self h_40))
 (
  k18 h_27)
noncomputable def lex_Lex_L0 (call : CallF) (t0 : Bytes) (h : AHeap) (h_2 : AHeap) (k18 : AHeap → R) : Nat → AHeap → R := iterR (fun _ => none) (lex_Lex_L0b call t0 h h_2 k18)
theorem lex_Lex_L0_s (call : CallF) (t0 : Bytes) (h : AHeap) (h_2 : AHeap) (k18 : AHeap → R) (m : Nat) : lex_Lex_L0 call t0 h h_2 k18 (m + 1) = lex_Lex_L0b call t0 h h_2 k18 (lex_Lex_L0 call t0 h h_2 k18 m) := rfl
noncomputable def lex_Lex (call : CallF) (n : Nat) (t0 : Bytes) (h : AHeap) : R :=
 lett (newH h 27 [.int .i64 0, .int .i64 0]) fun h_2 =>
 lett (decide ((lenS t0) > 2048)) fun (t8 : Bool) =>
 ifB t8
 (
  obind (stRow h_2 2 ([.int .i64 3, .int .i64 2048] : List AV) (newP h)) fun h_8 =>
  obind (ldRow h_8 2 (newP h)) fun w3 =>
  some (.ret (.tup [AV.nsl, .agg w3]), h_8))
 (
  lett (newH h_2 34 [.str 0 0, .int .i64 0, .nsl]) fun h_12 =>
  obind (stRow h_12 3 ([strA t0, .int .i64 0, .nsl] : List AV) (newP h_2)) fun h_14 =>
  lett (fun  (h_19 : AHeap) =>
   obind (ldCell h_19 (AV.ptr (AHeap.next h_2) 2)) fun v23 =>
   obind (stRow h_19 2 ([.int .i64 0, .int .i64 0] : List AV) (newP h)) fun h_22 =>
   obind (ldRow h_22 2 (newP h)) fun w3_25 =>
   some (.ret (.tup [v23, .agg w3_25]), h_22)) fun k18 =>
  lex_Lex_L0 call t0 h h_2 k18 n  h_14)
set_option maxHeartbeats 4000000 in
set_option maxRecDepth 20000 in
theorem lex_Lex_ok {call : CallF} (hc : SaysAll Try.prog call) {n : Nat} {t0 : Bytes} {h : AHeap} {rR : ARes} {hR : AHeap} (hF : lex_Lex call n t0 h = some (rR, hR)) : Says Try.prog 9 [strA t0] h rR hR := by
 unfold lex_Lex at hF
 refine says_of (fn := Try.f9) Try.func9 (c := codeOf Try.f9) (by kernel_rfl) (by kernel_rfl) (fun w0 m0 => ?_)
 refine W.weaken (l' := [(0, strA t0)]) (Fr.c Fr.n) ?_
 refine W.s (fun K1 n1 e1 q1 p1 => ?_)
 refine W.r ?_
 refine WL.a (some 2) AV.nsl h ?_
 replace hF := lett_some hF; obtain ⟨h_2, e3, hF⟩ := hF
 refine WL.val (d := (some 3)) (v := (newP h)) (h' := h_2) (by kernel_rfl) (by kernel_rfl) (val_ofH e3 (by kernel_rfl)) ?_
 refine WL.n ?_
 refine Go.weaken (l' := [(0, strA t0), (3, (newP h))]) (Fr.c (Fr.c Fr.n)) ?_
 refine n1 ?_
 refine W.s (fun K4 n4 e4 q4 p4 => ?_)
 refine W.s (fun K5 n5 e5 q5 p5 => ?_)
 refine W.r ?_
 refine WL.a (some 6) (strA t0) h_2 ?_
 refine WL.a (some 7) (.int .i64 (lenS t0)) h_2 ?_
 replace hF := lett_some hF; obtain ⟨t8, e6, hF⟩ := hF
 refine WL.val (d := (some 8)) (v := .bool t8) (h' := h_2) (by kernel_rfl) (by kernel_rfl) (val_of AV.bool e6 (by kernel_rfl)) ?_
 refine WL.n ?_
 refine Go.weaken (l' := [(0, strA t0), (3, (newP h)), (8, .bool t8)]) (Fr.c (Fr.c (Fr.c Fr.n))) ?_
 refine n5 ?_
 cases t8 with
 | true =>
  replace hF := ifB_t hF
  refine W.t ?_
  refine W.s (fun K7 n7 e7 q7 p7 => ?_)
  refine W.r ?_
  refine WL.a (some 9) (.agg ([.int .i64 3, .int .i64 2048] : List AV)) h_2 ?_
  refine WL.a (some 2) AV.nsl h_2 ?_
  replace hF := obind_some hF; obtain ⟨h_8, e9, hF⟩ := hF
  refine WL.e h_8 (store_row (P := Try.prog) (h := h_2) (t := 27) (v := (.agg ([.int .i64 3, .int .i64 2048] : List AV))) (by kernel_rfl) (by kernel_rfl) e9) ?_
  refine WL.n ?_
  refine Go.weaken (l' := [(2, AV.nsl), (3, (newP h))]) (Fr.c (Fr.c Fr.n)) ?_
  refine n7 ?_
  refine W.ret (by kernel_rfl) ?_
  refine q4 ?_
  replace hF := obind_some hF; obtain ⟨w3, e10, hF⟩ := hF
  obtain ⟨hF, hF2⟩ := ret_inj hF; subst hF; subst hF2
  exact leave_of (rs := [.tmp 2, .cell 3 27]) (vs := [AV.nsl, .agg w3]) (by kernel_rfl) (res_tmp (by kernel_rfl) (res_cell (by kernel_rfl) (load_row (P := Try.prog) (h := h_8) (t := 27) (by kernel_rfl) (by kernel_rfl) e10) res_nil)) (by kernel_rfl)
 | false =>
  replace hF := ifB_f hF
  refine W.f ?_
  refine W.skip (by kernel_rfl) ?_
  refine n4 ?_
  refine W.s (fun K11 n11 e11 q11 p11 => ?_)
  refine W.r ?_
  refine WL.a (some 10) (strA t0) h_2 ?_
  refine WL.a (some 11) (.agg ([strA t0, .int .i64 0, .nsl] : List AV)) h_2 ?_
  replace hF := lett_some hF; obtain ⟨h_12, e13, hF⟩ := hF
  refine WL.val (d := (some 4)) (v := (newP h_2)) (h' := h_12) (by kernel_rfl) (by kernel_rfl) (val_ofH e13 (by kernel_rfl)) ?_
  replace hF := obind_some hF; obtain ⟨h_14, e15, hF⟩ := hF
  refine WL.e h_14 (store_row (P := Try.prog) (h := h_12) (t := 34) (v := (.agg ([strA t0, .int .i64 0, .nsl] : List AV))) (by kernel_rfl) (by kernel_rfl) e15) ?_
  refine WL.n ?_
  refine Go.weaken (l' := [(0, strA t0), (3, (newP h)), (4, (newP h_2))]) (Fr.c (Fr.c (Fr.c Fr.n))) ?_
  refine n11 ?_
  refine W.s (fun K16 n16 e16 q16 p16 => ?_)
  replace hF := lett_some hF; obtain ⟨k18, e18, hF⟩ := hF
  have J18 : ∀  (h_19 : AHeap), k18 h_19 = some (rR, hR) → Go w0 m0 (Func.ntmps Try.f9) (K16 .normal) [(3, (newP h)), (4, (newP h_2))] [] h_19 := by
   intro  h_19 hF
   rw [e18] at hF
   refine n16 ?_
   refine W.s (fun K20 n20 e20 q20 p20 => ?_)
   refine W.r ?_
   refine WL.a (some 22) (AV.ptr (AHeap.next h_2) 2) h_19 ?_
   replace hF := obind_some hF; obtain ⟨v23, e21, hF⟩ := hF
   refine WL.b (some 23) v23 h_19 (load_cell (P := Try.prog) (h := h_19) (t := 24) (by kernel_rfl) e21) ?_
   refine WL.a (some 24) (.agg ([.int .i64 0, .int .i64 0] : List AV)) h_19 ?_
   refine WL.a (some 2) v23 h_19 ?_
   replace hF := obind_some hF; obtain ⟨h_22, e23, hF⟩ := hF
   refine WL.e h_22 (store_row (P := Try.prog) (h := h_19) (t := 27) (v := (.agg ([.int .i64 0, .int .i64 0] : List AV))) (by kernel_rfl) (by kernel_rfl) e23) ?_
   refine WL.n ?_
   refine Go.weaken (l' := [(2, v23), (3, (newP h))]) (Fr.c (Fr.c Fr.n)) ?_
   refine n20 ?_
   refine W.ret (by kernel_rfl) ?_
   replace hF := obind_some hF; obtain ⟨w3_25, e24, hF⟩ := hF
   obtain ⟨hF, hF2⟩ := ret_inj hF; subst hF; subst hF2
   exact leave_of (rs := [.tmp 2, .cell 3 27]) (vs := [v23, .agg w3_25]) (by kernel_rfl) (res_tmp (by kernel_rfl) (res_cell (by kernel_rfl) (load_row (P := Try.prog) (h := h_22) (t := 27) (by kernel_rfl) (by kernel_rfl) e24) res_nil)) (by kernel_rfl)
  refine W.blockK (by kernel_rfl) (fun K17 n17 s17 o17 q17 p17 => ?_)
  refine W.loopK (by kernel_rfl) (fun I26 K26 b26 n26 e26 q26 p26 => ?_)
  have L26 : ∀ (m : Nat)  (h_27 : AHeap), lex_Lex_L0 call t0 h h_2 k18 m  h_27 = some (rR, hR) → Go w0 m0 (Func.ntmps Try.f9) I26 [(0, strA t0), (3, (newP h)), (4, (newP h_2))] [] h_27 := by
   intro m
   induction m with
   | zero => intro  h_27 hF; cases hF
   | succ m ih26 =>
    intro  h_27 hF
    rw [lex_Lex_L0_s] at hF; unfold lex_Lex_L0b at hF
    refine b26 ?_
    refine W.s (fun K28 n28 e28 q28 p28 => ?_)
    refine W.s (fun K29 n29 e29 q29 p29 => ?_)
    refine W.r ?_
    refine WL.a (some 12) (AV.ptr (AHeap.next h_2) 1) h_27 ?_
    replace hF := obind_some hF; obtain ⟨v13, e30, hF⟩ := hF
    replace hF := obind_some hF; obtain ⟨t13, c31, hF⟩ := hF
    have c31 := avInt_some c31
    subst c31
    refine WL.b (some 13) (.int .i64 t13) h_27 (load_cell (P := Try.prog) (h := h_27) (t := 3) (by kernel_rfl) e30) ?_
    refine WL.a (some 14) (strA t0) h_27 ?_
    refine WL.a (some 15) (.int .i64 (lenS t0)) h_27 ?_
    replace hF := lett_some hF; obtain ⟨t16, e32, hF⟩ := hF
    refine WL.val (d := (some 16)) (v := .bool t16) (h' := h_27) (by kernel_rfl) (by kernel_rfl) (val_of AV.bool e32 (by kernel_rfl)) ?_
    refine WL.n ?_
    refine Go.weaken (l' := [(0, strA t0), (3, (newP h)), (4, (newP h_2)), (16, .bool t16)]) (Fr.c (Fr.c (Fr.c (Fr.c Fr.n)))) ?_
    refine n29 ?_
    cases t16 with
    | true =>
     replace hF := ifB_t hF
     refine W.t ?_
     refine W.skip (by kernel_rfl) ?_
     refine n28 ?_
     refine W.blockK (by kernel_rfl) (fun K33 n33 s33 o33 q33 p33 => ?_)
     refine W.s (fun K34 n34 e34 q34 p34 => ?_)
     refine W.r ?_
     replace hF := callN_some hF; obtain ⟨r17, h_35, e36, hF⟩ := hF
     replace hF := obind_some hF; obtain ⟨t17, c37, hF⟩ := hF
     have c37 := avAgg_some c37
     subst c37
     refine WL.c (hc.ok w0) (some 17) e36 ?_
     replace hF := lett_some hF; obtain ⟨h_38, e39, hF⟩ := hF
     refine WL.val (d := (some 5)) (v := (newP h_35)) (h' := h_38) (by kernel_rfl) (by kernel_rfl) (val_ofH e39 (by kernel_rfl)) ?_
     replace hF := obind_some hF; obtain ⟨h_40, e41, hF⟩ := hF
     refine WL.e h_40 (store_row (P := Try.prog) (h := h_38) (t := 27) (v := (.agg t17)) (by kernel_rfl) (by kernel_rfl) e41) ?_
     refine WL.n ?_
     refine Go.weaken (l' := [(0, strA t0), (3, (newP h)), (4, (newP h_2)), (5, (newP h_35))]) (Fr.c (Fr.c (Fr.c (Fr.c Fr.n)))) ?_
     refine n34 ?_
     refine W.s (fun K42 n42 e42 q42 p42 => ?_)
     refine W.r ?_
     refine WL.a (some 18) (AV.ptr (AHeap.next h_35) 0) h_40 ?_
     replace hF := obind_some hF; obtain ⟨v19, e43, hF⟩ := hF
     replace hF := obind_some hF; obtain ⟨t19, c44, hF⟩ := hF
     have c44 := avInt_some c44
     subst c44
     refine WL.b (some 19) (.int .i64 t19) h_40 (load_cell (P := Try.prog) (h := h_40) (t := 25) (by kernel_rfl) e43) ?_
     replace hF := lett_some hF; obtain ⟨t20, e45, hF⟩ := hF
     refine WL.val (d := (some 20)) (v := .bool t20) (h' := h_40) (by kernel_rfl) (by kernel_rfl) (val_of AV.bool e45 (by kernel_rfl)) ?_
     refine WL.n ?_
     refine Go.weaken (l' := [(0, strA t0), (3, (newP h)), (4, (newP h_2)), (5, (newP h_35)), (20, .bool t20)]) (Fr.c (Fr.c (Fr.c (Fr.c (Fr.c Fr.n))))) ?_
     refine n42 ?_
     cases t20 with
     | true =>
      replace hF := ifB_t hF
      refine W.t ?_
      refine W.s (fun K46 n46 e46 q46 p46 => ?_)
      refine W.draw (by kernel_rfl) (hc.ok w0) (plan := [0, 1, 2]) (by kernel_rfl) (by kernel_rfl) (by kernel_rfl) ?_
      replace hF := obind_some hF; obtain ⟨t21, e47, hF⟩ := hF
      refine WD.b 1 (some 21) (.agg t21) h_40 (load_row (P := Try.prog) (h := h_40) (t := 27) (by kernel_rfl) (by kernel_rfl) e47) ?_
      refine WD.a 0 (some 2) AV.nsl h_40 ?_
      replace hF := obind_some hF; obtain ⟨h_48, e49, hF⟩ := hF
      refine WD.eff (h' := h_48) (by kernel_rfl) (by kernel_rfl) (Eq.trans (by kernel_rfl) (store_row (P := Try.prog) (h := h_40) (t := 27) (v := (.agg t21)) (by kernel_rfl) (by kernel_rfl) e49)) (k := 2) (by kernel_rfl) (fun _ => (by kernel_rfl)) (by decide) ?_
      refine WD.nil ?_
      refine Go.weaken (l' := [(2, AV.nsl), (3, (newP h))]) (Fr.c (Fr.c Fr.n)) ?_
      refine n46 ?_
      refine W.ret (by kernel_rfl) ?_
      refine q33 ?_
      refine q26 ?_
      refine q17 ?_
      refine q16 ?_
      replace hF := obind_some hF; obtain ⟨w3_51, e50, hF⟩ := hF
      obtain ⟨hF, hF2⟩ := ret_inj hF; subst hF; subst hF2
      exact leave_of (rs := [.tmp 2, .cell 3 27]) (vs := [AV.nsl, .agg w3_51]) (by kernel_rfl) (res_tmp (by kernel_rfl) (res_cell (by kernel_rfl) (load_row (P := Try.prog) (h := h_48) (t := 27) (by kernel_rfl) (by kernel_rfl) e50) res_nil)) (by kernel_rfl)
     | false =>
      replace hF := ifB_f hF
      refine W.f ?_
      refine W.skip (by kernel_rfl) ?_
      refine n33 ?_
      refine n26 ?_
      exact Go.weaken (Fr.c (Fr.c (Fr.c Fr.n))) (ih26 _ hF)
    | false =>
     replace hF := ifB_f hF
     refine W.f ?_
     refine W.exit (by kernel_rfl) ?_
     refine e28 ?_
     refine e26 ?_
     refine s17 (by kernel_rfl) ?_
     exact Go.weaken (Fr.c (Fr.c Fr.n)) (J18 _ hF)
  exact Go.weaken (Fr.c (Fr.c (Fr.c Fr.n))) (L26 _ _ hF)
noncomputable def lex_Lex_fn (call : CallF) (n : Nat) : FnT := fun args h => match args with
 | [x0] => obind (avStr x0) fun t0 => lex_Lex call n t0 h
 | _ => none
set_option maxRecDepth 100000 in
theorem lex_Lex_fn_eq (call : CallF) (n : Nat) (t0 : Bytes) (h : AHeap) : lex_Lex_fn call n [strA t0] h = lex_Lex call n t0 h :=
 (Eq.trans (obind_eq (fun t0 => lex_Lex call n t0 h) (avStr_str t0)) rfl)
theorem lex_Lex_holds {call : CallF} (hc : SaysAll Try.prog call) (n : Nat) : Holds Try.prog 9 (lex_Lex_fn call n) := by
 intro args h r h2 e
 unfold lex_Lex_fn at e
 split at e
 ·replace e := obind_some e; obtain ⟨t0, c0, e⟩ := e; have c0 := avStr_some c0; subst c0
  exact lex_Lex_ok hc e
 ·cases e

noncomputable def lex_lexer_line_L0b (call : CallF) (t0 : AV) (h : AHeap) (k14 : AHeap → R) (self : AHeap → R) (h_56 : AHeap) : R :=
 callN (call 22 [t0] h_56) fun r13 h_59 =>
 obind (avBool r13) fun t13 =>
 lett (!t13) fun (t14 : Bool) =>
 ifB t14
 (
  callN (call 23 [t0] h_59) fun r18 h_66 =>
  obind (avAgg r18) fun t18 =>
  lett (newH h_66 27 [.int .i64 0, .int .i64 0]) fun h_69 =>
  obind (stRow h_69 2 t18 (newP h_66)) fun h_71 =>
  obind (ldCell h_71 (AV.ptr (AHeap.next h_66) 0)) fun v20 =>
  obind (avInt .i64 v20) fun t20 =>
  lett ((t20 : Int) != 0) fun (t21 : Bool) =>
  ifB t21
  (
   obind (ldRow h_71 2 (newP h_66)) fun t22 =>
   obind (stRow h_71 2 t22 (newP h)) fun h_79 =>
   obind (ldRow h_79 2 (newP h)) fun w2_82 =>
   some (.ret (.agg w2_82), h_79))
  (
   callN (call 21 [t0] h_71) fun _ h_83 =>
   self h_83))
 (
  k14 h_59)
noncomputable def lex_lexer_line_L0 (call : CallF) (t0 : AV) (h : AHeap) (k14 : AHeap → R) : Nat → AHeap → R := iterR (fun _ => none) (lex_lexer_line_L0b call t0 h k14)
theorem lex_lexer_line_L0_s (call : CallF) (t0 : AV) (h : AHeap) (k14 : AHeap → R) (m : Nat) : lex_lexer_line_L0 call t0 h k14 (m + 1) = lex_lexer_line_L0b call t0 h k14 (lex_lexer_line_L0 call t0 h k14 m) := rfl
noncomputable def lex_lexer_line (call : CallF) (n : Nat) (t0 : AV) (h : AHeap) : R :=
 lett (newH h 27 [.int .i64 0, .int .i64 0]) fun h_2 =>
 obind (nilC t0) fun t6 =>
 obind (fldP 2 t6) fun t7 =>
 obind (ldCell h_2 t7) fun v8 =>
 obind (lenL v8) fun t9 =>
 callN (call 21 [t0] h_2) fun _ h_11 =>
 lett (fun  (h_15 : AHeap) =>
  obind (nilC t0) fun t24 =>
  obind (fldP 2 t24) fun t25 =>
  obind (ldCell h_15 t25) fun v26 =>
  obind (lenL v26) fun t27 =>
  lett (decide (t27 > t9)) fun (t29 : Bool) =>
  lett (fun  (h_24 : AHeap) =>
   obind (nilC t0) fun t45 =>
   obind (fldP 1 t45) fun t46 =>
   obind (ldCell h_24 t46) fun v47 =>
   obind (avInt .i64 v47) fun t47 =>
   lett (IntKind.i64.wrap (t47 + 1)) fun (t48 : Int) =>
   obind (nilC t0) fun t49 =>
   obind (fldP 1 t49) fun t50 =>
   obind (stRow h_24 1 [.int .i64 t48] t50) fun h_33 =>
   obind (stRow h_33 2 ([.int .i64 0, .int .i64 0] : List AV) (newP h)) fun h_36 =>
   obind (ldRow h_36 2 (newP h)) fun w2 =>
   some (.ret (.agg w2), h_36)) fun k23 =>
  ifB t29
  (
   obind (nilC t0) fun t32 =>
   obind (fldP 2 t32) fun t33 =>
   obind (ldCell h_15 t33) fun v34 =>
   obind (nilC t0) fun t36 =>
   obind (fldP 1 t36) fun t37 =>
   obind (ldCell h_15 t37) fun v38 =>
   obind (avInt .i64 v38) fun t38 =>
   outK (bldSl Try.prog h_15 24 1 [(0, .agg ([.int .i64 6, .str 0 0, .int .i64 0, .int .i64 t38] : List AV))]) fun v40 h_46 =>
   chk (true && (reLoad Try.prog h_46 24 t33 v34 && true)) <|
   outK (opAppend Try.prog h_46 24 24 v34 v40) fun v41 h_49 =>
   obind (nilC t0) fun t42 =>
   obind (fldP 2 t42) fun t43 =>
   obind (stRow h_49 1 (AV.cells v41) t43) fun h_53 =>
   k23 h_53)
  (
   k23 h_15)) fun k14 =>
 lex_lexer_line_L0 call t0 h k14 n  h_11
set_option maxHeartbeats 4000000 in
set_option maxRecDepth 20000 in
theorem lex_lexer_line_ok {call : CallF} (hc : SaysAll Try.prog call) {n : Nat} {t0 : AV} {h : AHeap} {rR : ARes} {hR : AHeap} (hF : lex_lexer_line call n t0 h = some (rR, hR)) : Says Try.prog 13 [t0] h rR hR := by
 unfold lex_lexer_line at hF
 refine says_of (fn := Try.f13) Try.func13 (c := codeOf Try.f13) (by kernel_rfl) (by kernel_rfl) (fun w0 m0 => ?_)
 refine W.weaken (l' := [(0, t0)]) (Fr.c Fr.n) ?_
 refine W.s (fun K1 n1 e1 q1 p1 => ?_)
 refine W.r ?_
 replace hF := lett_some hF; obtain ⟨h_2, e3, hF⟩ := hF
 refine WL.val (d := (some 2)) (v := (newP h)) (h' := h_2) (by kernel_rfl) (by kernel_rfl) (val_ofH e3 (by kernel_rfl)) ?_
 refine WL.n ?_
 refine Go.weaken (l' := [(0, t0), (2, (newP h))]) (Fr.c (Fr.c Fr.n)) ?_
 refine n1 ?_
 refine W.s (fun K4 n4 e4 q4 p4 => ?_)
 refine W.r ?_
 refine WL.a (some 5) t0 h_2 ?_
 replace hF := obind_some hF; obtain ⟨t6, e5, hF⟩ := hF
 refine WL.b (some 6) t6 h_2 (nil_chk (h := h_2) e5) ?_
 replace hF := obind_some hF; obtain ⟨t7, e6, hF⟩ := hF
 refine WL.b (some 7) t7 h_2 (field_ptr (P := Try.prog) (h := h_2) (s := 34) (f := 2) (by kernel_rfl) e6) ?_
 replace hF := obind_some hF; obtain ⟨v8, e7, hF⟩ := hF
 refine WL.b (some 8) v8 h_2 (load_cell (P := Try.prog) (h := h_2) (t := 24) (by kernel_rfl) e7) ?_
 replace hF := obind_some hF; obtain ⟨t9, e8, hF⟩ := hF
 refine WL.b (some 9) (.int .i64 t9) h_2 (len_row (P := Try.prog) (h := h_2) (t := 24) (e' := 31) (by kernel_rfl) e8) ?_
 refine WL.a (some 3) (.int .i64 t9) h_2 ?_
 refine WL.n ?_
 refine Go.weaken (l' := [(0, t0), (2, (newP h)), (3, .int .i64 t9)]) (Fr.c (Fr.c (Fr.c Fr.n))) ?_
 refine n4 ?_
 refine W.s (fun K9 n9 e9 q9 p9 => ?_)
 refine W.s (fun K10 n10 e10 q10 p10 => ?_)
 refine W.r ?_
 refine WL.a (some 10) t0 h_2 ?_
 replace hF := callN_some hF; obtain ⟨r11, h_11, e12, hF⟩ := hF
 refine WL.c (hc.ok w0) (some 11) e12 ?_
 refine WL.n ?_
 refine Go.weaken (l' := [(0, t0), (2, (newP h)), (3, .int .i64 t9)]) (Fr.c (Fr.c (Fr.c Fr.n))) ?_
 refine n10 ?_
 replace hF := lett_some hF; obtain ⟨k14, e14, hF⟩ := hF
 have J14 : ∀  (h_15 : AHeap), k14 h_15 = some (rR, hR) → Go w0 m0 (Func.ntmps Try.f13) (K9 .normal) [(0, t0), (2, (newP h)), (3, .int .i64 t9)] [] h_15 := by
  intro  h_15 hF
  rw [e14] at hF
  refine n9 ?_
  refine W.s (fun K16 n16 e16 q16 p16 => ?_)
  refine W.s (fun K17 n17 e17 q17 p17 => ?_)
  refine W.r ?_
  refine WL.a (some 23) t0 h_15 ?_
  replace hF := obind_some hF; obtain ⟨t24, e18, hF⟩ := hF
  refine WL.b (some 24) t24 h_15 (nil_chk (h := h_15) e18) ?_
  replace hF := obind_some hF; obtain ⟨t25, e19, hF⟩ := hF
  refine WL.b (some 25) t25 h_15 (field_ptr (P := Try.prog) (h := h_15) (s := 34) (f := 2) (by kernel_rfl) e19) ?_
  replace hF := obind_some hF; obtain ⟨v26, e20, hF⟩ := hF
  refine WL.b (some 26) v26 h_15 (load_cell (P := Try.prog) (h := h_15) (t := 24) (by kernel_rfl) e20) ?_
  replace hF := obind_some hF; obtain ⟨t27, e21, hF⟩ := hF
  refine WL.b (some 27) (.int .i64 t27) h_15 (len_row (P := Try.prog) (h := h_15) (t := 24) (e' := 31) (by kernel_rfl) e21) ?_
  refine WL.a (some 28) (.int .i64 t9) h_15 ?_
  replace hF := lett_some hF; obtain ⟨t29, e22, hF⟩ := hF
  refine WL.val (d := (some 29)) (v := .bool t29) (h' := h_15) (by kernel_rfl) (by kernel_rfl) (val_of AV.bool e22 (by kernel_rfl)) ?_
  refine WL.n ?_
  refine Go.weaken (l' := [(0, t0), (2, (newP h)), (29, .bool t29)]) (Fr.c (Fr.c (Fr.c Fr.n))) ?_
  refine n17 ?_
  replace hF := lett_some hF; obtain ⟨k23, e23, hF⟩ := hF
  have J23 : ∀  (h_24 : AHeap), k23 h_24 = some (rR, hR) → Go w0 m0 (Func.ntmps Try.f13) (K16 .normal) [(0, t0), (2, (newP h))] [] h_24 := by
   intro  h_24 hF
   rw [e23] at hF
   refine n16 ?_
   refine W.s (fun K25 n25 e25 q25 p25 => ?_)
   refine W.r ?_
   refine WL.a (some 44) t0 h_24 ?_
   replace hF := obind_some hF; obtain ⟨t45, e26, hF⟩ := hF
   refine WL.b (some 45) t45 h_24 (nil_chk (h := h_24) e26) ?_
   replace hF := obind_some hF; obtain ⟨t46, e27, hF⟩ := hF
   refine WL.b (some 46) t46 h_24 (field_ptr (P := Try.prog) (h := h_24) (s := 34) (f := 1) (by kernel_rfl) e27) ?_
   replace hF := obind_some hF; obtain ⟨v47, e28, hF⟩ := hF
   replace hF := obind_some hF; obtain ⟨t47, c29, hF⟩ := hF
   have c29 := avInt_some c29
   subst c29
   refine WL.b (some 47) (.int .i64 t47) h_24 (load_cell (P := Try.prog) (h := h_24) (t := 3) (by kernel_rfl) e28) ?_
   replace hF := lett_some hF; obtain ⟨t48, e30, hF⟩ := hF
   refine WL.val (d := (some 48)) (v := .int .i64 t48) (h' := h_24) (by kernel_rfl) (by kernel_rfl) (val_of (AV.int .i64) e30 (by kernel_rfl)) ?_
   replace hF := obind_some hF; obtain ⟨t49, e31, hF⟩ := hF
   refine WL.b (some 49) t49 h_24 (nil_chk (h := h_24) e31) ?_
   replace hF := obind_some hF; obtain ⟨t50, e32, hF⟩ := hF
   refine WL.b (some 50) t50 h_24 (field_ptr (P := Try.prog) (h := h_24) (s := 34) (f := 1) (by kernel_rfl) e32) ?_
   replace hF := obind_some hF; obtain ⟨h_33, e34, hF⟩ := hF
   refine WL.e h_33 (store_row (P := Try.prog) (h := h_24) (t := 3) (v := (.int .i64 t48)) (by kernel_rfl) (by kernel_rfl) e34) ?_
   refine WL.n ?_
   refine Go.weaken (l' := [(2, (newP h))]) (Fr.c Fr.n) ?_
   refine n25 ?_
   refine W.s (fun K35 n35 e35 q35 p35 => ?_)
   refine W.r ?_
   refine WL.a (some 51) (.agg ([.int .i64 0, .int .i64 0] : List AV)) h_33 ?_
   replace hF := obind_some hF; obtain ⟨h_36, e37, hF⟩ := hF
   refine WL.e h_36 (store_row (P := Try.prog) (h := h_33) (t := 27) (v := (.agg ([.int .i64 0, .int .i64 0] : List AV))) (by kernel_rfl) (by kernel_rfl) e37) ?_
   refine WL.n ?_
   refine Go.weaken (l' := [(2, (newP h))]) (Fr.c Fr.n) ?_
   refine n35 ?_
   refine W.ret (by kernel_rfl) ?_
   replace hF := obind_some hF; obtain ⟨w2, e38, hF⟩ := hF
   obtain ⟨hF, hF2⟩ := ret_inj hF; subst hF; subst hF2
   exact leave_of (rs := [.cell 2 27]) (vs := [.agg w2]) (by kernel_rfl) (res_cell (by kernel_rfl) (load_row (P := Try.prog) (h := h_36) (t := 27) (by kernel_rfl) (by kernel_rfl) e38) res_nil) (by kernel_rfl)
  cases t29 with
  | true =>
   replace hF := ifB_t hF
   refine W.t ?_
   refine W.draw (by kernel_rfl) (hc.ok w0) (plan := [0, 1, 2, 3, 4, 5, 6, 7, 8, 9, 10, 11, 12, 13, 14]) (by kernel_rfl) (by kernel_rfl) (by kernel_rfl) ?_
   refine WD.a 0 (some 30) t0 h_15 ?_
   refine WD.a 0 (some 31) t0 h_15 ?_
   replace hF := obind_some hF; obtain ⟨t32, e39, hF⟩ := hF
   refine WD.b 0 (some 32) t32 h_15 (nil_chk (h := h_15) e39) ?_
   replace hF := obind_some hF; obtain ⟨t33, e40, hF⟩ := hF
   refine WD.b 0 (some 33) t33 h_15 (field_ptr (P := Try.prog) (h := h_15) (s := 34) (f := 2) (by kernel_rfl) e40) ?_
   replace hF := obind_some hF; obtain ⟨v34, e41, hF⟩ := hF
   refine WD.b 1 (some 34) v34 h_15 (load_cell (P := Try.prog) (h := h_15) (t := 24) (by kernel_rfl) e41) ?_
   refine WD.a 0 (some 35) t0 h_15 ?_
   replace hF := obind_some hF; obtain ⟨t36, e42, hF⟩ := hF
   refine WD.b 0 (some 36) t36 h_15 (nil_chk (h := h_15) e42) ?_
   replace hF := obind_some hF; obtain ⟨t37, e43, hF⟩ := hF
   refine WD.b 0 (some 37) t37 h_15 (field_ptr (P := Try.prog) (h := h_15) (s := 34) (f := 1) (by kernel_rfl) e43) ?_
   replace hF := obind_some hF; obtain ⟨v38, e44, hF⟩ := hF
   replace hF := obind_some hF; obtain ⟨t38, c45, hF⟩ := hF
   have c45 := avInt_some c45
   subst c45
   refine WD.b 1 (some 38) (.int .i64 t38) h_15 (load_cell (P := Try.prog) (h := h_15) (t := 3) (by kernel_rfl) e44) ?_
   refine WD.a 0 (some 39) (.agg ([.int .i64 6, .str 0 0, .int .i64 0, .int .i64 t38] : List AV)) h_15 ?_
   replace hF := outK_some hF; obtain ⟨v40, h_46, e47, hF⟩ := hF
   replace hF := chk_some hF; obtain ⟨k48, hF⟩ := hF
   refine WD.val (d := (some 40)) (v := v40) (h' := h_46) (by kernel_rfl) (by kernel_rfl) (Eq.trans (by kernel_rfl) e47) (k := 2) (by kernel_rfl) (fun _ => (Eq.trans (by kernel_rfl) k48)) (by decide) ?_
   replace hF := outK_some hF; obtain ⟨v41, h_49, e50, hF⟩ := hF
   refine WD.val (d := (some 41)) (v := v41) (h' := h_49) (by kernel_rfl) (by kernel_rfl) (Eq.trans (by kernel_rfl) e50) (k := 2) (by kernel_rfl) (fun _ => (by kernel_rfl)) (by decide) ?_
   replace hF := obind_some hF; obtain ⟨t42, e51, hF⟩ := hF
   refine WD.b 0 (some 42) t42 h_49 (nil_chk (h := h_49) e51) ?_
   replace hF := obind_some hF; obtain ⟨t43, e52, hF⟩ := hF
   refine WD.b 0 (some 43) t43 h_49 (field_ptr (P := Try.prog) (h := h_49) (s := 34) (f := 2) (by kernel_rfl) e52) ?_
   replace hF := obind_some hF; obtain ⟨h_53, e54, hF⟩ := hF
   refine WD.eff (h' := h_53) (by kernel_rfl) (by kernel_rfl) (Eq.trans (by kernel_rfl) (store_row (P := Try.prog) (h := h_49) (t := 24) (v := v41) (by kernel_rfl) (by kernel_rfl) e54)) (k := 2) (by kernel_rfl) (fun _ => (by kernel_rfl)) (by decide) ?_
   refine WD.nil ?_
   refine Go.weaken (l' := [(0, t0), (2, (newP h))]) (Fr.c (Fr.c Fr.n)) ?_
   exact Go.weaken (Fr.c (Fr.c Fr.n)) (J23 _ hF)
  | false =>
   replace hF := ifB_f hF
   refine W.f ?_
   refine W.skip (by kernel_rfl) ?_
   exact Go.weaken (Fr.c (Fr.c Fr.n)) (J23 _ hF)
 refine W.blockK (by kernel_rfl) (fun K13 n13 s13 o13 q13 p13 => ?_)
 refine W.loopK (by kernel_rfl) (fun I55 K55 b55 n55 e55 q55 p55 => ?_)
 have L55 : ∀ (m : Nat)  (h_56 : AHeap), lex_lexer_line_L0 call t0 h k14 m  h_56 = some (rR, hR) → Go w0 m0 (Func.ntmps Try.f13) I55 [(0, t0), (2, (newP h)), (3, .int .i64 t9)] [] h_56 := by
  intro m
  induction m with
  | zero => intro  h_56 hF; cases hF
  | succ m ih55 =>
   intro  h_56 hF
   rw [lex_lexer_line_L0_s] at hF; unfold lex_lexer_line_L0b at hF
   refine b55 ?_
   refine W.s (fun K57 n57 e57 q57 p57 => ?_)
   refine W.s (fun K58 n58 e58 q58 p58 => ?_)
   refine W.r ?_
   refine WL.a (some 12) t0 h_56 ?_
   replace hF := callN_some hF; obtain ⟨r13, h_59, e60, hF⟩ := hF
   replace hF := obind_some hF; obtain ⟨t13, c61, hF⟩ := hF
   have c61 := avBool_some c61
   subst c61
   refine WL.c (hc.ok w0) (some 13) e60 ?_
   replace hF := lett_some hF; obtain ⟨t14, e62, hF⟩ := hF
   refine WL.val (d := (some 14)) (v := .bool t14) (h' := h_59) (by kernel_rfl) (by kernel_rfl) (val_of AV.bool e62 (by kernel_rfl)) ?_
   refine WL.n ?_
   refine Go.weaken (l' := [(0, t0), (2, (newP h)), (3, .int .i64 t9), (14, .bool t14)]) (Fr.c (Fr.c (Fr.c (Fr.c Fr.n)))) ?_
   refine n58 ?_
   cases t14 with
   | true =>
    replace hF := ifB_t hF
    refine W.t ?_
    refine W.skip (by kernel_rfl) ?_
    refine n57 ?_
    refine W.s (fun K63 n63 e63 q63 p63 => ?_)
    refine W.blockK (by kernel_rfl) (fun K64 n64 s64 o64 q64 p64 => ?_)
    refine W.s (fun K65 n65 e65 q65 p65 => ?_)
    refine W.r ?_
    refine WL.a (some 17) t0 h_59 ?_
    replace hF := callN_some hF; obtain ⟨r18, h_66, e67, hF⟩ := hF
    replace hF := obind_some hF; obtain ⟨t18, c68, hF⟩ := hF
    have c68 := avAgg_some c68
    subst c68
    refine WL.c (hc.ok w0) (some 18) e67 ?_
    replace hF := lett_some hF; obtain ⟨h_69, e70, hF⟩ := hF
    refine WL.val (d := (some 4)) (v := (newP h_66)) (h' := h_69) (by kernel_rfl) (by kernel_rfl) (val_ofH e70 (by kernel_rfl)) ?_
    replace hF := obind_some hF; obtain ⟨h_71, e72, hF⟩ := hF
    refine WL.e h_71 (store_row (P := Try.prog) (h := h_69) (t := 27) (v := (.agg t18)) (by kernel_rfl) (by kernel_rfl) e72) ?_
    refine WL.n ?_
    refine Go.weaken (l' := [(0, t0), (2, (newP h)), (3, .int .i64 t9), (4, (newP h_66))]) (Fr.c (Fr.c (Fr.c (Fr.c Fr.n)))) ?_
    refine n65 ?_
    refine W.s (fun K73 n73 e73 q73 p73 => ?_)
    refine W.r ?_
    refine WL.a (some 19) (AV.ptr (AHeap.next h_66) 0) h_71 ?_
    replace hF := obind_some hF; obtain ⟨v20, e74, hF⟩ := hF
    replace hF := obind_some hF; obtain ⟨t20, c75, hF⟩ := hF
    have c75 := avInt_some c75
    subst c75
    refine WL.b (some 20) (.int .i64 t20) h_71 (load_cell (P := Try.prog) (h := h_71) (t := 25) (by kernel_rfl) e74) ?_
    replace hF := lett_some hF; obtain ⟨t21, e76, hF⟩ := hF
    refine WL.val (d := (some 21)) (v := .bool t21) (h' := h_71) (by kernel_rfl) (by kernel_rfl) (val_of AV.bool e76 (by kernel_rfl)) ?_
    refine WL.n ?_
    refine Go.weaken (l' := [(0, t0), (2, (newP h)), (3, .int .i64 t9), (4, (newP h_66)), (21, .bool t21)]) (Fr.c (Fr.c (Fr.c (Fr.c (Fr.c Fr.n))))) ?_
    refine n73 ?_
    cases t21 with
    | true =>
     replace hF := ifB_t hF
     refine W.t ?_
     refine W.s (fun K77 n77 e77 q77 p77 => ?_)
     refine W.r ?_
     replace hF := obind_some hF; obtain ⟨t22, e78, hF⟩ := hF
     refine WL.b (some 22) (.agg t22) h_71 (load_row (P := Try.prog) (h := h_71) (t := 27) (by kernel_rfl) (by kernel_rfl) e78) ?_
     replace hF := obind_some hF; obtain ⟨h_79, e80, hF⟩ := hF
     refine WL.e h_79 (store_row (P := Try.prog) (h := h_71) (t := 27) (v := (.agg t22)) (by kernel_rfl) (by kernel_rfl) e80) ?_
     refine WL.n ?_
     refine Go.weaken (l' := [(2, (newP h))]) (Fr.c Fr.n) ?_
     refine n77 ?_
     refine W.ret (by kernel_rfl) ?_
     refine q64 ?_
     refine q63 ?_
     refine q55 ?_
     refine q13 ?_
     refine q9 ?_
     replace hF := obind_some hF; obtain ⟨w2_82, e81, hF⟩ := hF
     obtain ⟨hF, hF2⟩ := ret_inj hF; subst hF; subst hF2
     exact leave_of (rs := [.cell 2 27]) (vs := [.agg w2_82]) (by kernel_rfl) (res_cell (by kernel_rfl) (load_row (P := Try.prog) (h := h_79) (t := 27) (by kernel_rfl) (by kernel_rfl) e81) res_nil) (by kernel_rfl)
    | false =>
     replace hF := ifB_f hF
     refine W.f ?_
     refine W.skip (by kernel_rfl) ?_
     refine n64 ?_
     refine n63 ?_
     refine W.r ?_
     refine WL.a (some 15) t0 h_71 ?_
     replace hF := callN_some hF; obtain ⟨r16, h_83, e84, hF⟩ := hF
     refine WL.c (hc.ok w0) (some 16) e84 ?_
     refine WL.n ?_
     refine Go.weaken (l' := [(0, t0), (2, (newP h)), (3, .int .i64 t9)]) (Fr.c (Fr.c (Fr.c Fr.n))) ?_
     refine n55 ?_
     exact Go.weaken (Fr.c (Fr.c (Fr.c Fr.n))) (ih55 _ hF)
   | false =>
    replace hF := ifB_f hF
    refine W.f ?_
    refine W.exit (by kernel_rfl) ?_
    refine e57 ?_
    refine e55 ?_
    refine s13 (by kernel_rfl) ?_
    exact Go.weaken (Fr.c (Fr.c (Fr.c Fr.n))) (J14 _ hF)
 exact Go.weaken (Fr.c (Fr.c (Fr.c Fr.n))) (L55 _ _ hF)
noncomputable def lex_lexer_line_fn (call : CallF) (n : Nat) : FnT := fun args h => match args with
 | [x0] => lex_lexer_line call n x0 h
 | _ => none
set_option maxRecDepth 100000 in
theorem lex_lexer_line_fn_eq (call : CallF) (n : Nat) (t0 : AV) (h : AHeap) : lex_lexer_line_fn call n [t0] h = lex_lexer_line call n t0 h :=
 rfl
theorem lex_lexer_line_holds {call : CallF} (hc : SaysAll Try.prog call) (n : Nat) : Holds Try.prog 13 (lex_lexer_line_fn call n) := by
 intro args h r h2 e
 unfold lex_lexer_line_fn at e
 split at e
 ·exact lex_lexer_line_ok hc e
 ·cases e

noncomputable def lex_lexer_skipBlanks (call : CallF) (_ : Nat) (t0 : AV) (h : AHeap) : R :=
 callN (call 30 [t0, (AV.fn 31 [] [])] h) fun _ h_2 =>
 lett (fun (t18 : Bool) (h_6 : AHeap) =>
  lett (fun  (h_8 : AHeap) =>
   some (.ret (.tup []), h_8)) fun k7 =>
  ifB t18
  (
   callN (call 30 [t0, (AV.fn 32 [] [])] h_6) fun _ h_9 =>
   k7 h_9)
  (
   k7 h_6)) fun k5 =>
 callN (call 22 [t0] h_2) fun r5 h_11 =>
 obind (avBool r5) fun t5 =>
 lett (!t5) fun (t6 : Bool) =>
 ifB t6
 (
  obind (nilC t0) fun t9 =>
  obind (fldP 0 t9) fun t10 =>
  obind (ldCell h_11 t10) fun v11 =>
  obind (avStr v11) fun t11 =>
  obind (nilC t0) fun t13 =>
  obind (fldP 1 t13) fun t14 =>
  obind (ldCell h_11 t14) fun v15 =>
  obind (avInt .i64 v15) fun t15 =>
  obind (idxS t11 t15) fun t16 =>
  lett ((t16 : Int) == 35) fun (t17 : Bool) =>
  k5 t17 h_11)
 (
  k5 false h_11)
set_option maxHeartbeats 4000000 in
set_option maxRecDepth 20000 in
theorem lex_lexer_skipBlanks_ok {call : CallF} (hc : SaysAll Try.prog call) {n : Nat} {t0 : AV} {h : AHeap} {rR : ARes} {hR : AHeap} (hF : lex_lexer_skipBlanks call n t0 h = some (rR, hR)) : Says Try.prog 21 [t0] h rR hR := by
 unfold lex_lexer_skipBlanks at hF
 refine says_of (fn := Try.f21) Try.func21 (c := codeOf Try.f21) (by kernel_rfl) (by kernel_rfl) (fun w0 m0 => ?_)
 refine W.weaken (l' := [(0, t0)]) (Fr.c Fr.n) ?_
 refine W.s (fun K1 n1 e1 q1 p1 => ?_)
 refine W.r ?_
 refine WL.a (some 2) t0 h ?_
 replace hF := callN_some hF; obtain ⟨r3, h_2, e3, hF⟩ := hF
 refine WL.c (hc.ok w0) (some 3) e3 ?_
 refine WL.n ?_
 refine Go.weaken (l' := [(0, t0)]) (Fr.c Fr.n) ?_
 refine n1 ?_
 refine W.s (fun K4 n4 e4 q4 p4 => ?_)
 replace hF := lett_some hF; obtain ⟨k5, e5, hF⟩ := hF
 have J5 : ∀ (t18 : Bool) (h_6 : AHeap), k5 t18 h_6 = some (rR, hR) → Go w0 m0 (Func.ntmps Try.f21) (K4 .normal) [(0, t0), (18, .bool t18)] [] h_6 := by
  intro t18 h_6 hF
  rw [e5] at hF
  refine n4 ?_
  replace hF := lett_some hF; obtain ⟨k7, e7, hF⟩ := hF
  have J7 : ∀  (h_8 : AHeap), k7 h_8 = some (rR, hR) → Go w0 m0 (Func.ntmps Try.f21) (Fin Try.prog Try.f21 w0 m0 rR hR .normal) [] [] h_8 := by
   intro  h_8 hF
   rw [e7] at hF
   obtain ⟨hF, hF2⟩ := ret_inj hF; subst hF; subst hF2
   exact leaveN_of (rs := []) (vs := []) (by kernel_rfl) res_nil (by kernel_rfl)
  cases t18 with
  | true =>
   replace hF := ifB_t hF
   refine W.t ?_
   refine W.r ?_
   refine WL.a (some 19) t0 h_6 ?_
   replace hF := callN_some hF; obtain ⟨r20, h_9, e10, hF⟩ := hF
   refine WL.c (hc.ok w0) (some 20) e10 ?_
   refine WL.n ?_
   refine Go.weaken (l' := []) Fr.n ?_
   exact Go.weaken Fr.n (J7 _ hF)
  | false =>
   replace hF := ifB_f hF
   refine W.f ?_
   refine W.skip (by kernel_rfl) ?_
   exact Go.weaken Fr.n (J7 _ hF)
 refine W.draw (by kernel_rfl) (hc.ok w0) (plan := [0, 1, 2, 3, 4, 5, 6, 7, 8, 9, 10, 11, 12, 13, 14]) (by kernel_rfl) (by kernel_rfl) (by kernel_rfl) ?_
 refine WD.a 0 (some 4) t0 h_2 ?_
 replace hF := callN_some hF; obtain ⟨r5, h_11, e12, hF⟩ := hF
 replace hF := obind_some hF; obtain ⟨t5, c13, hF⟩ := hF
 have c13 := avBool_some c13
 subst c13
 refine WD.call (d := (some 5)) (by kernel_rfl) (by kernel_rfl) (by kernel_rfl) e12 (k := 2) (by kernel_rfl) (fun _ => (by kernel_rfl)) (by decide) ?_
 replace hF := lett_some hF; obtain ⟨t6, e14, hF⟩ := hF
 refine WD.val (d := (some 6)) (v := .bool t6) (h' := h_11) (by kernel_rfl) (by kernel_rfl) (val_of AV.bool e14 (by kernel_rfl)) (k := 0) (by kernel_rfl) (fun e => absurd e (by decide)) (by decide) ?_
 refine WD.a 0 (some 7) (.bool t6) h_11 ?_
 cases t6 with
 | true =>
  replace hF := ifB_t hF
  refine WD.a 0 (some 8) t0 h_11 ?_
  replace hF := obind_some hF; obtain ⟨t9, e15, hF⟩ := hF
  refine WD.b 0 (some 9) t9 h_11 (nil_chk (h := h_11) e15) ?_
  replace hF := obind_some hF; obtain ⟨t10, e16, hF⟩ := hF
  refine WD.b 0 (some 10) t10 h_11 (field_ptr (P := Try.prog) (h := h_11) (s := 34) (f := 0) (by kernel_rfl) e16) ?_
  replace hF := obind_some hF; obtain ⟨v11, e17, hF⟩ := hF
  replace hF := obind_some hF; obtain ⟨t11, c18, hF⟩ := hF
  have c18 := avStr_some c18
  subst c18
  refine WD.b 1 (some 11) (strA t11) h_11 (load_cell (P := Try.prog) (h := h_11) (t := 9) (by kernel_rfl) e17) ?_
  refine WD.a 0 (some 12) t0 h_11 ?_
  replace hF := obind_some hF; obtain ⟨t13, e19, hF⟩ := hF
  refine WD.b 0 (some 13) t13 h_11 (nil_chk (h := h_11) e19) ?_
  replace hF := obind_some hF; obtain ⟨t14, e20, hF⟩ := hF
  refine WD.b 0 (some 14) t14 h_11 (field_ptr (P := Try.prog) (h := h_11) (s := 34) (f := 1) (by kernel_rfl) e20) ?_
  replace hF := obind_some hF; obtain ⟨v15, e21, hF⟩ := hF
  replace hF := obind_some hF; obtain ⟨t15, c22, hF⟩ := hF
  have c22 := avInt_some c22
  subst c22
  refine WD.b 1 (some 15) (.int .i64 t15) h_11 (load_cell (P := Try.prog) (h := h_11) (t := 3) (by kernel_rfl) e21) ?_
  replace hF := obind_some hF; obtain ⟨t16, e23, hF⟩ := hF
  refine WD.b 0 (some 16) (.int .u8 t16) h_11 (index_str (P := Try.prog) (h := h_11) (t := 9) (k := .i64) (by kernel_rfl) e23) ?_
  replace hF := lett_some hF; obtain ⟨t17, e24, hF⟩ := hF
  refine WD.val (d := (some 17)) (v := .bool t17) (h' := h_11) (by kernel_rfl) (by kernel_rfl) (val_of AV.bool e24 (by kernel_rfl)) (k := 0) (by kernel_rfl) (fun e => absurd e (by decide)) (by decide) ?_
  refine WD.a 0 (some 18) (.bool t17) h_11 ?_
  refine WD.nil ?_
  exact Go.weaken (Fr.c (Fr.c Fr.n)) (J5 _ _ hF)
 | false =>
  replace hF := ifB_f hF
  refine WD.not (d := (some 8)) (by kernel_rfl) (by kernel_rfl) (k := 0) (by kernel_rfl) (fun e => absurd e (by decide)) (by decide) ?_
  refine WD.not (d := (some 9)) (by kernel_rfl) (by kernel_rfl) (k := 0) (by kernel_rfl) (fun e => absurd e (by decide)) (by decide) ?_
  refine WD.not (d := (some 10)) (by kernel_rfl) (by kernel_rfl) (k := 0) (by kernel_rfl) (fun e => absurd e (by decide)) (by decide) ?_
  refine WD.not (d := (some 11)) (by kernel_rfl) (by kernel_rfl) (k := 1) (by kernel_rfl) (fun e => absurd e (by decide)) (by decide) ?_
  refine WD.not (d := (some 12)) (by kernel_rfl) (by kernel_rfl) (k := 0) (by kernel_rfl) (fun e => absurd e (by decide)) (by decide) ?_
  refine WD.not (d := (some 13)) (by kernel_rfl) (by kernel_rfl) (k := 0) (by kernel_rfl) (fun e => absurd e (by decide)) (by decide) ?_
  refine WD.not (d := (some 14)) (by kernel_rfl) (by kernel_rfl) (k := 0) (by kernel_rfl) (fun e => absurd e (by decide)) (by decide) ?_
  refine WD.not (d := (some 15)) (by kernel_rfl) (by kernel_rfl) (k := 1) (by kernel_rfl) (fun e => absurd e (by decide)) (by decide) ?_
  refine WD.not (d := (some 16)) (by kernel_rfl) (by kernel_rfl) (k := 0) (by kernel_rfl) (fun e => absurd e (by decide)) (by decide) ?_
  refine WD.not (d := (some 17)) (by kernel_rfl) (by kernel_rfl) (k := 0) (by kernel_rfl) (fun e => absurd e (by decide)) (by decide) ?_
  refine WD.a 0 (some 18) (.bool false) h_11 ?_
  refine WD.nil ?_
  exact Go.weaken (Fr.c (Fr.c Fr.n)) (J5 _ _ hF)
noncomputable def lex_lexer_skipBlanks_fn (call : CallF) (n : Nat) : FnT := fun args h => match args with
 | [x0] => lex_lexer_skipBlanks call n x0 h
 | _ => none
set_option maxRecDepth 100000 in
theorem lex_lexer_skipBlanks_fn_eq (call : CallF) (n : Nat) (t0 : AV) (h : AHeap) : lex_lexer_skipBlanks_fn call n [t0] h = lex_lexer_skipBlanks call n t0 h :=
 rfl
theorem lex_lexer_skipBlanks_holds {call : CallF} (hc : SaysAll Try.prog call) (n : Nat) : Holds Try.prog 21 (lex_lexer_skipBlanks_fn call n) := by
 intro args h r h2 e
 unfold lex_lexer_skipBlanks_fn at e
 split at e
 ·exact lex_lexer_skipBlanks_ok hc e
 ·cases e

noncomputable def lex_lexer_skipBlanks_1 (_ : CallF) (_ : Nat) (t0 : Int) (h : AHeap) : R :=
 lett ((t0 : Int) != 10) fun (t4 : Bool) =>
 some (.ret (.bool t4), h)
set_option maxHeartbeats 4000000 in
set_option maxRecDepth 20000 in
theorem lex_lexer_skipBlanks_1_ok {call : CallF} (_ : SaysAll Try.prog call) {n : Nat} {t0 : Int} {h : AHeap} {rR : ARes} {hR : AHeap} (hF : lex_lexer_skipBlanks_1 call n t0 h = some (rR, hR)) : Says Try.prog 32 [.int .u8 t0] h rR hR := by
 unfold lex_lexer_skipBlanks_1 at hF
 refine says_of (fn := Try.f32) Try.func32 (c := codeOf Try.f32) (by kernel_rfl) (by kernel_rfl) (fun w0 m0 => ?_)
 refine W.weaken (l' := [(0, .int .u8 t0)]) (Fr.c Fr.n) ?_
 refine W.s (fun K1 n1 e1 q1 p1 => ?_)
 refine W.r ?_
 refine WL.a (some 2) (.bool false) h ?_
 refine WL.n ?_
 refine Go.weaken (l' := [(0, .int .u8 t0)]) (Fr.c Fr.n) ?_
 refine n1 ?_
 refine W.s (fun K2 n2 e2 q2 p2 => ?_)
 refine W.r ?_
 refine WL.a (some 3) (.int .u8 t0) h ?_
 replace hF := lett_some hF; obtain ⟨t4, e3, hF⟩ := hF
 refine WL.val (d := (some 4)) (v := .bool t4) (h' := h) (by kernel_rfl) (by kernel_rfl) (val_of AV.bool e3 (by kernel_rfl)) ?_
 refine WL.a (some 2) (.bool t4) h ?_
 refine WL.n ?_
 refine Go.weaken (l' := [(2, .bool t4)]) (Fr.c Fr.n) ?_
 refine n2 ?_
 refine W.ret (by kernel_rfl) ?_
 obtain ⟨hF, hF2⟩ := ret_inj hF; subst hF; subst hF2
 exact leave_of (rs := [.tmp 2]) (vs := [.bool t4]) (by kernel_rfl) (res_tmp (by kernel_rfl) res_nil) (by kernel_rfl)
noncomputable def lex_lexer_skipBlanks_1_fn (call : CallF) (n : Nat) : FnT := fun args h => match args with
 | [x0] => obind (avInt .u8 x0) fun t0 => lex_lexer_skipBlanks_1 call n t0 h
 | _ => none
set_option maxRecDepth 100000 in
theorem lex_lexer_skipBlanks_1_fn_eq (call : CallF) (n : Nat) (t0 : Int) (h : AHeap) : lex_lexer_skipBlanks_1_fn call n [.int .u8 t0] h = lex_lexer_skipBlanks_1 call n t0 h :=
 (Eq.trans (obind_eq (fun t0 => lex_lexer_skipBlanks_1 call n t0 h) (avInt_int .u8 t0)) rfl)
theorem lex_lexer_skipBlanks_1_holds {call : CallF} (hc : SaysAll Try.prog call) (n : Nat) : Holds Try.prog 32 (lex_lexer_skipBlanks_1_fn call n) := by
 intro args h r h2 e
 unfold lex_lexer_skipBlanks_1_fn at e
 split at e
 ·replace e := obind_some e; obtain ⟨t0, c0, e⟩ := e; have c0 := avInt_some c0; subst c0
  exact lex_lexer_skipBlanks_1_ok hc e
 ·cases e

noncomputable def lex_lexer_skip (call : CallF) (_ : Nat) (t0 : AV) (t1 : AV) (h : AHeap) : R :=
 obind (nilC t0) fun t7 =>
 obind (fldP 0 t7) fun t8 =>
 obind (ldCell h t8) fun v9 =>
 obind (avStr v9) fun t9 =>
 obind (nilC t0) fun t11 =>
 obind (fldP 1 t11) fun t12 =>
 obind (ldCell h t12) fun v13 =>
 obind (avInt .i64 v13) fun t13 =>
 obind (nilC t0) fun t15 =>
 obind (fldP 0 t15) fun t16 =>
 obind (ldCell h t16) fun v17 =>
 obind (avStr v17) fun t17 =>
 callN (call 27 [strA t9, .int .i64 t13, .int .i64 (lenS t17), t1] h) fun r20 h_13 =>
 obind (extT 0 r20) fun v21 =>
 obind (avInt .i64 v21) fun t21 =>
 obind (extT 1 r20) fun v22 =>
 obind (avInt .i64 v22) fun _ =>
 obind (nilC t0) fun t23 =>
 obind (fldP 1 t23) fun t24 =>
 obind (stRow h_13 1 [.int .i64 t21] t24) fun h_21 =>
 some (.ret (.tup []), h_21)
set_option maxHeartbeats 4000000 in
set_option maxRecDepth 20000 in
theorem lex_lexer_skip_ok {call : CallF} (hc : SaysAll Try.prog call) {n : Nat} {t0 : AV} {t1 : AV} {h : AHeap} {rR : ARes} {hR : AHeap} (hF : lex_lexer_skip call n t0 t1 h = some (rR, hR)) : Says Try.prog 30 [t0, t1] h rR hR := by
 unfold lex_lexer_skip at hF
 refine says_of (fn := Try.f30) Try.func30 (c := codeOf Try.f30) (by kernel_rfl) (by kernel_rfl) (fun w0 m0 => ?_)
 refine W.weaken (l' := [(0, t0), (1, t1)]) (Fr.c (Fr.c Fr.n)) ?_
 refine W.draw (by kernel_rfl) (hc.ok w0) (plan := [0, 1, 2, 3, 4, 5, 6, 7, 8, 9, 10, 11, 12, 13, 14, 15, 16, 17, 18, 19, 20, 21]) (by kernel_rfl) (by kernel_rfl) (by kernel_rfl) ?_
 refine WD.a 0 (some 5) t0 h ?_
 refine WD.a 0 (some 6) t0 h ?_
 replace hF := obind_some hF; obtain ⟨t7, e1, hF⟩ := hF
 refine WD.b 0 (some 7) t7 h (nil_chk (h := h) e1) ?_
 replace hF := obind_some hF; obtain ⟨t8, e2, hF⟩ := hF
 refine WD.b 0 (some 8) t8 h (field_ptr (P := Try.prog) (h := h) (s := 34) (f := 0) (by kernel_rfl) e2) ?_
 replace hF := obind_some hF; obtain ⟨v9, e3, hF⟩ := hF
 replace hF := obind_some hF; obtain ⟨t9, c4, hF⟩ := hF
 have c4 := avStr_some c4
 subst c4
 refine WD.b 1 (some 9) (strA t9) h (load_cell (P := Try.prog) (h := h) (t := 9) (by kernel_rfl) e3) ?_
 refine WD.a 0 (some 10) t0 h ?_
 replace hF := obind_some hF; obtain ⟨t11, e5, hF⟩ := hF
 refine WD.b 0 (some 11) t11 h (nil_chk (h := h) e5) ?_
 replace hF := obind_some hF; obtain ⟨t12, e6, hF⟩ := hF
 refine WD.b 0 (some 12) t12 h (field_ptr (P := Try.prog) (h := h) (s := 34) (f := 1) (by kernel_rfl) e6) ?_
 replace hF := obind_some hF; obtain ⟨v13, e7, hF⟩ := hF
 replace hF := obind_some hF; obtain ⟨t13, c8, hF⟩ := hF
 have c8 := avInt_some c8
 subst c8
 refine WD.b 1 (some 13) (.int .i64 t13) h (load_cell (P := Try.prog) (h := h) (t := 3) (by kernel_rfl) e7) ?_
 refine WD.a 0 (some 14) t0 h ?_
 replace hF := obind_some hF; obtain ⟨t15, e9, hF⟩ := hF
 refine WD.b 0 (some 15) t15 h (nil_chk (h := h) e9) ?_
 replace hF := obind_some hF; obtain ⟨t16, e10, hF⟩ := hF
 refine WD.b 0 (some 16) t16 h (field_ptr (P := Try.prog) (h := h) (s := 34) (f := 0) (by kernel_rfl) e10) ?_
 replace hF := obind_some hF; obtain ⟨v17, e11, hF⟩ := hF
 replace hF := obind_some hF; obtain ⟨t17, c12, hF⟩ := hF
 have c12 := avStr_some c12
 subst c12
 refine WD.b 1 (some 17) (strA t17) h (load_cell (P := Try.prog) (h := h) (t := 9) (by kernel_rfl) e11) ?_
 refine WD.a 0 (some 18) (.int .i64 (lenS t17)) h ?_
 refine WD.a 0 (some 19) t1 h ?_
 replace hF := callN_some hF; obtain ⟨r20, h_13, e14, hF⟩ := hF
 refine WD.call (d := (some 20)) (by kernel_rfl) (by kernel_rfl) (by kernel_rfl) e14 (k := 2) (by kernel_rfl) (fun _ => (by kernel_rfl)) (by decide) ?_
 refine WD.a 0 (some 4) r20 h_13 ?_
 replace hF := obind_some hF; obtain ⟨v21, e15, hF⟩ := hF
 replace hF := obind_some hF; obtain ⟨t21, c16, hF⟩ := hF
 have c16 := avInt_some c16
 subst c16
 refine WD.b 0 (some 21) (.int .i64 t21) h_13 (extract_tup (h := h_13) e15) ?_
 replace hF := obind_some hF; obtain ⟨v22, e17, hF⟩ := hF
 replace hF := obind_some hF; obtain ⟨t22, c18, hF⟩ := hF
 have c18 := avInt_some c18
 subst c18
 refine WD.b 0 (some 22) (.int .i64 t22) h_13 (extract_tup (h := h_13) e17) ?_
 replace hF := obind_some hF; obtain ⟨t23, e19, hF⟩ := hF
 refine WD.b 0 (some 23) t23 h_13 (nil_chk (h := h_13) e19) ?_
 replace hF := obind_some hF; obtain ⟨t24, e20, hF⟩ := hF
 refine WD.b 0 (some 24) t24 h_13 (field_ptr (P := Try.prog) (h := h_13) (s := 34) (f := 1) (by kernel_rfl) e20) ?_
 replace hF := obind_some hF; obtain ⟨h_21, e22, hF⟩ := hF
 refine WD.eff (h' := h_21) (by kernel_rfl) (by kernel_rfl) (Eq.trans (by kernel_rfl) (store_row (P := Try.prog) (h := h_13) (t := 3) (v := (.int .i64 t21)) (by kernel_rfl) (by kernel_rfl) e22)) (k := 2) (by kernel_rfl) (fun _ => (by kernel_rfl)) (by decide) ?_
 refine WD.nil ?_
 refine Go.weaken (l' := []) Fr.n ?_
 obtain ⟨hF, hF2⟩ := ret_inj hF; subst hF; subst hF2
 exact leaveN_of (rs := []) (vs := []) (by kernel_rfl) res_nil (by kernel_rfl)
noncomputable def lex_lexer_skip_fn (call : CallF) (n : Nat) : FnT := fun args h => match args with
 | [x0, x1] => lex_lexer_skip call n x0 x1 h
 | _ => none
set_option maxRecDepth 100000 in
theorem lex_lexer_skip_fn_eq (call : CallF) (n : Nat) (t0 : AV) (t1 : AV) (h : AHeap) : lex_lexer_skip_fn call n [t0, t1] h = lex_lexer_skip call n t0 t1 h :=
 rfl
theorem lex_lexer_skip_holds {call : CallF} (hc : SaysAll Try.prog call) (n : Nat) : Holds Try.prog 30 (lex_lexer_skip_fn call n) := by
 intro args h r h2 e
 unfold lex_lexer_skip_fn at e
 split at e
 ·exact lex_lexer_skip_ok hc e
 ·cases e

noncomputable def lex_lexer_lineEnds (_ : CallF) (_ : Nat) (t0 : AV) (h : AHeap) : R :=
 lett (fun (t2 : Bool) (h_4 : AHeap) =>
  some (.ret (.bool t2), h_4)) fun k3 =>
 obind (nilC t0) fun t4 =>
 obind (fldP 1 t4) fun t5 =>
 obind (ldCell h t5) fun v6 =>
 obind (avInt .i64 v6) fun t6 =>
 obind (nilC t0) fun t8 =>
 obind (fldP 0 t8) fun t9 =>
 obind (ldCell h t9) fun v10 =>
 obind (avStr v10) fun t10 =>
 lett (decide (t6 ≥ (lenS t10))) fun (t12 : Bool) =>
 ifB t12
 (
  k3 true h)
 (
  obind (nilC t0) fun t15 =>
  obind (fldP 0 t15) fun t16 =>
  obind (ldCell h t16) fun v17 =>
  obind (avStr v17) fun t17 =>
  obind (nilC t0) fun t19 =>
  obind (fldP 1 t19) fun t20 =>
  obind (ldCell h t20) fun v21 =>
  obind (avInt .i64 v21) fun t21 =>
  obind (idxS t17 t21) fun t22 =>
  lett ((t22 : Int) == 10) fun (t23 : Bool) =>
  k3 t23 h)
set_option maxHeartbeats 4000000 in
set_option maxRecDepth 20000 in
theorem lex_lexer_lineEnds_ok {call : CallF} (hc : SaysAll Try.prog call) {n : Nat} {t0 : AV} {h : AHeap} {rR : ARes} {hR : AHeap} (hF : lex_lexer_lineEnds call n t0 h = some (rR, hR)) : Says Try.prog 22 [t0] h rR hR := by
 unfold lex_lexer_lineEnds at hF
 refine says_of (fn := Try.f22) Try.func22 (c := codeOf Try.f22) (by kernel_rfl) (by kernel_rfl) (fun w0 m0 => ?_)
 refine W.weaken (l' := [(0, t0)]) (Fr.c Fr.n) ?_
 refine W.s (fun K1 n1 e1 q1 p1 => ?_)
 refine W.r ?_
 refine WL.a (some 2) (.bool false) h ?_
 refine WL.n ?_
 refine Go.weaken (l' := [(0, t0)]) (Fr.c Fr.n) ?_
 refine n1 ?_
 refine W.s (fun K2 n2 e2 q2 p2 => ?_)
 replace hF := lett_some hF; obtain ⟨k3, e3, hF⟩ := hF
 have J3 : ∀ (t2 : Bool) (h_4 : AHeap), k3 t2 h_4 = some (rR, hR) → Go w0 m0 (Func.ntmps Try.f22) (K2 .normal) [(2, .bool t2)] [] h_4 := by
  intro t2 h_4 hF
  rw [e3] at hF
  refine n2 ?_
  refine W.ret (by kernel_rfl) ?_
  obtain ⟨hF, hF2⟩ := ret_inj hF; subst hF; subst hF2
  exact leave_of (rs := [.tmp 2]) (vs := [.bool t2]) (by kernel_rfl) (res_tmp (by kernel_rfl) res_nil) (by kernel_rfl)
 refine W.draw (by kernel_rfl) (hc.ok w0) (plan := [0, 1, 2, 3, 4, 5, 6, 7, 8, 9, 10, 11, 12, 13, 14, 15, 16, 17, 18, 19, 20, 21, 22]) (by kernel_rfl) (by kernel_rfl) (by kernel_rfl) ?_
 refine WD.a 0 (some 3) t0 h ?_
 replace hF := obind_some hF; obtain ⟨t4, e5, hF⟩ := hF
 refine WD.b 0 (some 4) t4 h (nil_chk (h := h) e5) ?_
 replace hF := obind_some hF; obtain ⟨t5, e6, hF⟩ := hF
 refine WD.b 0 (some 5) t5 h (field_ptr (P := Try.prog) (h := h) (s := 34) (f := 1) (by kernel_rfl) e6) ?_
 replace hF := obind_some hF; obtain ⟨v6, e7, hF⟩ := hF
 replace hF := obind_some hF; obtain ⟨t6, c8, hF⟩ := hF
 have c8 := avInt_some c8
 subst c8
 refine WD.b 1 (some 6) (.int .i64 t6) h (load_cell (P := Try.prog) (h := h) (t := 3) (by kernel_rfl) e7) ?_
 refine WD.a 0 (some 7) t0 h ?_
 replace hF := obind_some hF; obtain ⟨t8, e9, hF⟩ := hF
 refine WD.b 0 (some 8) t8 h (nil_chk (h := h) e9) ?_
 replace hF := obind_some hF; obtain ⟨t9, e10, hF⟩ := hF
 refine WD.b 0 (some 9) t9 h (field_ptr (P := Try.prog) (h := h) (s := 34) (f := 0) (by kernel_rfl) e10) ?_
 replace hF := obind_some hF; obtain ⟨v10, e11, hF⟩ := hF
 replace hF := obind_some hF; obtain ⟨t10, c12, hF⟩ := hF
 have c12 := avStr_some c12
 subst c12
 refine WD.b 1 (some 10) (strA t10) h (load_cell (P := Try.prog) (h := h) (t := 9) (by kernel_rfl) e11) ?_
 refine WD.a 0 (some 11) (.int .i64 (lenS t10)) h ?_
 replace hF := lett_some hF; obtain ⟨t12, e13, hF⟩ := hF
 refine WD.val (d := (some 12)) (v := .bool t12) (h' := h) (by kernel_rfl) (by kernel_rfl) (val_of AV.bool e13 (by kernel_rfl)) (k := 0) (by kernel_rfl) (fun e => absurd e (by decide)) (by decide) ?_
 refine WD.a 0 (some 13) (.bool t12) h ?_
 cases t12 with
 | true =>
  replace hF := ifB_t hF
  refine WD.not (d := (some 14)) (by kernel_rfl) (by kernel_rfl) (k := 0) (by kernel_rfl) (fun e => absurd e (by decide)) (by decide) ?_
  refine WD.not (d := (some 15)) (by kernel_rfl) (by kernel_rfl) (k := 0) (by kernel_rfl) (fun e => absurd e (by decide)) (by decide) ?_
  refine WD.not (d := (some 16)) (by kernel_rfl) (by kernel_rfl) (k := 0) (by kernel_rfl) (fun e => absurd e (by decide)) (by decide) ?_
  refine WD.not (d := (some 17)) (by kernel_rfl) (by kernel_rfl) (k := 1) (by kernel_rfl) (fun e => absurd e (by decide)) (by decide) ?_
  refine WD.not (d := (some 18)) (by kernel_rfl) (by kernel_rfl) (k := 0) (by kernel_rfl) (fun e => absurd e (by decide)) (by decide) ?_
  refine WD.not (d := (some 19)) (by kernel_rfl) (by kernel_rfl) (k := 0) (by kernel_rfl) (fun e => absurd e (by decide)) (by decide) ?_
  refine WD.not (d := (some 20)) (by kernel_rfl) (by kernel_rfl) (k := 0) (by kernel_rfl) (fun e => absurd e (by decide)) (by decide) ?_
  refine WD.not (d := (some 21)) (by kernel_rfl) (by kernel_rfl) (k := 1) (by kernel_rfl) (fun e => absurd e (by decide)) (by decide) ?_
  refine WD.not (d := (some 22)) (by kernel_rfl) (by kernel_rfl) (k := 0) (by kernel_rfl) (fun e => absurd e (by decide)) (by decide) ?_
  refine WD.not (d := (some 23)) (by kernel_rfl) (by kernel_rfl) (k := 0) (by kernel_rfl) (fun e => absurd e (by decide)) (by decide) ?_
  refine WD.a 0 (some 24) (.bool true) h ?_
  refine WD.a 0 (some 2) (.bool true) h ?_
  refine WD.nil ?_
  exact Go.weaken (Fr.c Fr.n) (J3 _ _ hF)
 | false =>
  replace hF := ifB_f hF
  refine WD.a 0 (some 14) t0 h ?_
  replace hF := obind_some hF; obtain ⟨t15, e14, hF⟩ := hF
  refine WD.b 0 (some 15) t15 h (nil_chk (h := h) e14) ?_
  replace hF := obind_some hF; obtain ⟨t16, e15, hF⟩ := hF
  refine WD.b 0 (some 16) t16 h (field_ptr (P := Try.prog) (h := h) (s := 34) (f := 0) (by kernel_rfl) e15) ?_
  replace hF := obind_some hF; obtain ⟨v17, e16, hF⟩ := hF
  replace hF := obind_some hF; obtain ⟨t17, c17, hF⟩ := hF
  have c17 := avStr_some c17
  subst c17
  refine WD.b 1 (some 17) (strA t17) h (load_cell (P := Try.prog) (h := h) (t := 9) (by kernel_rfl) e16) ?_
  refine WD.a 0 (some 18) t0 h ?_
  replace hF := obind_some hF; obtain ⟨t19, e18, hF⟩ := hF
  refine WD.b 0 (some 19) t19 h (nil_chk (h := h) e18) ?_
  replace hF := obind_some hF; obtain ⟨t20, e19, hF⟩ := hF
  refine WD.b 0 (some 20) t20 h (field_ptr (P := Try.prog) (h := h) (s := 34) (f := 1) (by kernel_rfl) e19) ?_
  replace hF := obind_some hF; obtain ⟨v21, e20, hF⟩ := hF
  replace hF := obind_some hF; obtain ⟨t21, c21, hF⟩ := hF
  have c21 := avInt_some c21
  subst c21
  refine WD.b 1 (some 21) (.int .i64 t21) h (load_cell (P := Try.prog) (h := h) (t := 3) (by kernel_rfl) e20) ?_
  replace hF := obind_some hF; obtain ⟨t22, e22, hF⟩ := hF
  refine WD.b 0 (some 22) (.int .u8 t22) h (index_str (P := Try.prog) (h := h) (t := 9) (k := .i64) (by kernel_rfl) e22) ?_
  replace hF := lett_some hF; obtain ⟨t23, e23, hF⟩ := hF
  refine WD.val (d := (some 23)) (v := .bool t23) (h' := h) (by kernel_rfl) (by kernel_rfl) (val_of AV.bool e23 (by kernel_rfl)) (k := 0) (by kernel_rfl) (fun e => absurd e (by decide)) (by decide) ?_
  refine WD.a 0 (some 24) (.bool t23) h ?_
  refine WD.a 0 (some 2) (.bool t23) h ?_
  refine WD.nil ?_
  exact Go.weaken (Fr.c Fr.n) (J3 _ _ hF)
noncomputable def lex_lexer_lineEnds_fn (call : CallF) (n : Nat) : FnT := fun args h => match args with
 | [x0] => lex_lexer_lineEnds call n x0 h
 | _ => none
set_option maxRecDepth 100000 in
theorem lex_lexer_lineEnds_fn_eq (call : CallF) (n : Nat) (t0 : AV) (h : AHeap) : lex_lexer_lineEnds_fn call n [t0] h = lex_lexer_lineEnds call n t0 h :=
 rfl
theorem lex_lexer_lineEnds_holds {call : CallF} (hc : SaysAll Try.prog call) (n : Nat) : Holds Try.prog 22 (lex_lexer_lineEnds_fn call n) := by
 intro args h r h2 e
 unfold lex_lexer_lineEnds_fn at e
 split at e
 ·exact lex_lexer_lineEnds_ok hc e
 ·cases e

noncomputable def lex_lexer_token (call : CallF) (_ : Nat) (t0 : AV) (h : AHeap) : R :=
 lett (newH h 27 [.int .i64 0, .int .i64 0]) fun h_2 =>
 obind (nilC t0) fun t8 =>
 obind (fldP 0 t8) fun t9 =>
 obind (ldCell h_2 t9) fun v10 =>
 obind (avStr v10) fun t10 =>
 obind (nilC t0) fun t12 =>
 obind (fldP 1 t12) fun t13 =>
 obind (ldCell h_2 t13) fun v14 =>
 obind (avInt .i64 v14) fun t14 =>
 lett (newH h_2 31 [.int .i64 0, .str 0 0, .int .i64 0, .int .i64 0]) fun h_13 =>
 lett (newH h_13 27 [.int .i64 0, .int .i64 0]) fun h_15 =>
 callN (call 33 [strA t10, .int .i64 t14] h_15) fun r15 h_17 =>
 chk (rowSame h_17 (AHeap.next h_13) 27 [.int .i64 0, .int .i64 0] && (rowSame h_17 (AHeap.next h_2) 31 [.int .i64 0, .str 0 0, .int .i64 0, .int .i64 0] && (true && (true && true)))) <|
 obind (extT 0 r15) fun v16 =>
 obind (avAgg v16) fun t16 =>
 obind (extT 1 r15) fun v17 =>
 obind (avInt .i64 v17) fun t17 =>
 obind (extT 2 r15) fun v18 =>
 obind (avAgg v18) fun t18 =>
 obind (stRow h_17 4 t16 (newP h_2)) fun h_26 =>
 obind (stRow h_26 2 t18 (newP h_13)) fun h_28 =>
 obind (ldCell h_28 (AV.ptr (AHeap.next h_13) 0)) fun v20 =>
 obind (avInt .i64 v20) fun t20 =>
 lett ((t20 : Int) != 0) fun (t21 : Bool) =>
 ifB t21
 (
  obind (ldRow h_28 2 (newP h_13)) fun t22 =>
  obind (stRow h_28 2 t22 (newP h)) fun h_37 =>
  obind (ldRow h_37 2 (newP h)) fun w2 =>
  some (.ret (.agg w2), h_37))
 (
  obind (nilC t0) fun t25 =>
  obind (fldP 1 t25) fun t26 =>
  obind (stRow h_28 1 [.int .i64 t17] t26) fun h_43 =>
  callN (call 22 [t0] h_43) fun r28 h_47 =>
  obind (avBool r28) fun t28 =>
  lett (!t28) fun (t29 : Bool) =>
  lett (fun (t39 : Bool) (h_51 : AHeap) =>
   ifB t39
   (
    obind (stRow h_51 2 ([.int .i64 6, .int .i64 t17] : List AV) (newP h)) fun h_55 =>
    obind (ldRow h_55 2 (newP h)) fun w2_58 =>
    some (.ret (.agg w2_58), h_55))
   (
    obind (nilC t0) fun t44 =>
    obind (fldP 2 t44) fun t45 =>
    obind (ldCell h_51 t45) fun v46 =>
    obind (ldRow h_51 4 (newP h_2)) fun t47 =>
    outK (bldSl Try.prog h_51 24 1 [(0, .agg t47)]) fun v48 h_64 =>
    chk (true && (reLoad Try.prog h_64 24 t45 v46 && true)) <|
    outK (opAppend Try.prog h_64 24 24 v46 v48) fun v49 h_67 =>
    obind (nilC t0) fun t50 =>
    obind (fldP 2 t50) fun t51 =>
    obind (stRow h_67 1 (AV.cells v49) t51) fun h_71 =>
    obind (stRow h_71 2 ([.int .i64 0, .int .i64 0] : List AV) (newP h)) fun h_74 =>
    obind (ldRow h_74 2 (newP h)) fun w2_77 =>
    some (.ret (.agg w2_77), h_74))) fun j39 =>
  ifB t29
  (
   obind (nilC t0) fun t32 =>
   obind (fldP 0 t32) fun t33 =>
   obind (ldCell h_47 t33) fun v34 =>
   obind (avStr v34) fun t34 =>
   obind (idxS t34 t17) fun t36 =>
   callN (call 31 [.int .u8 t36] h_47) fun r37 h_83 =>
   obind (avBool r37) fun t37 =>
   lett (!t37) fun (t38 : Bool) =>
   j39 t38 h_83)
  (
   j39 false h_47))
set_option maxHeartbeats 4000000 in
set_option maxRecDepth 20000 in
theorem lex_lexer_token_ok {call : CallF} (hc : SaysAll Try.prog call) {n : Nat} {t0 : AV} {h : AHeap} {rR : ARes} {hR : AHeap} (hF : lex_lexer_token call n t0 h = some (rR, hR)) : Says Try.prog 23 [t0] h rR hR := by
 unfold lex_lexer_token at hF
 refine says_of (fn := Try.f23) Try.func23 (c := codeOf Try.f23) (by kernel_rfl) (by kernel_rfl) (fun w0 m0 => ?_)
 refine W.weaken (l' := [(0, t0)]) (Fr.c Fr.n) ?_
 refine W.s (fun K1 n1 e1 q1 p1 => ?_)
 refine W.r ?_
 replace hF := lett_some hF; obtain ⟨h_2, e3, hF⟩ := hF
 refine WL.val (d := (some 2)) (v := (newP h)) (h' := h_2) (by kernel_rfl) (by kernel_rfl) (val_ofH e3 (by kernel_rfl)) ?_
 refine WL.n ?_
 refine Go.weaken (l' := [(0, t0), (2, (newP h))]) (Fr.c (Fr.c Fr.n)) ?_
 refine n1 ?_
 refine W.s (fun K4 n4 e4 q4 p4 => ?_)
 refine W.draw (by kernel_rfl) (hc.ok w0) (plan := [0, 1, 2, 3, 4, 5, 6, 7, 13, 14, 8, 9, 10, 11, 12, 15, 16, 17]) (by kernel_rfl) (by kernel_rfl) (by kernel_rfl) ?_
 refine WD.a 0 (some 7) t0 h_2 ?_
 replace hF := obind_some hF; obtain ⟨t8, e5, hF⟩ := hF
 refine WD.b 0 (some 8) t8 h_2 (nil_chk (h := h_2) e5) ?_
 replace hF := obind_some hF; obtain ⟨t9, e6, hF⟩ := hF
 refine WD.b 0 (some 9) t9 h_2 (field_ptr (P := Try.prog) (h := h_2) (s := 34) (f := 0) (by kernel_rfl) e6) ?_
 replace hF := obind_some hF; obtain ⟨v10, e7, hF⟩ := hF
 replace hF := obind_some hF; obtain ⟨t10, c8, hF⟩ := hF
 have c8 := avStr_some c8
 subst c8
 refine WD.b 1 (some 10) (strA t10) h_2 (load_cell (P := Try.prog) (h := h_2) (t := 9) (by kernel_rfl) e7) ?_
 refine WD.a 0 (some 11) t0 h_2 ?_
 replace hF := obind_some hF; obtain ⟨t12, e9, hF⟩ := hF
 refine WD.b 0 (some 12) t12 h_2 (nil_chk (h := h_2) e9) ?_
 replace hF := obind_some hF; obtain ⟨t13, e10, hF⟩ := hF
 refine WD.b 0 (some 13) t13 h_2 (field_ptr (P := Try.prog) (h := h_2) (s := 34) (f := 1) (by kernel_rfl) e10) ?_
 replace hF := obind_some hF; obtain ⟨v14, e11, hF⟩ := hF
 replace hF := obind_some hF; obtain ⟨t14, c12, hF⟩ := hF
 have c12 := avInt_some c12
 subst c12
 refine WD.b 1 (some 14) (.int .i64 t14) h_2 (load_cell (P := Try.prog) (h := h_2) (t := 3) (by kernel_rfl) e11) ?_
 replace hF := lett_some hF; obtain ⟨h_13, e14, hF⟩ := hF
 refine WD.val (d := (some 3)) (v := (newP h_2)) (h' := h_13) (by kernel_rfl) (by kernel_rfl) (val_ofH e14 (by kernel_rfl)) (k := 1) (by kernel_rfl) (fun e => absurd e (by decide)) (by decide) ?_
 replace hF := lett_some hF; obtain ⟨h_15, e16, hF⟩ := hF
 refine WD.val (d := (some 5)) (v := (newP h_13)) (h' := h_15) (by kernel_rfl) (by kernel_rfl) (val_ofH e16 (by kernel_rfl)) (k := 1) (by kernel_rfl) (fun e => absurd e (by decide)) (by decide) ?_
 replace hF := callN_some hF; obtain ⟨r15, h_17, e18, hF⟩ := hF
 replace hF := chk_some hF; obtain ⟨k19, hF⟩ := hF
 refine WD.call (d := (some 15)) (by kernel_rfl) (by kernel_rfl) (by kernel_rfl) e18 (k := 2) (by kernel_rfl) (fun _ => (Eq.trans (by kernel_rfl) k19)) (by decide) ?_
 refine WD.a 0 (some 6) r15 h_17 ?_
 replace hF := obind_some hF; obtain ⟨v16, e20, hF⟩ := hF
 replace hF := obind_some hF; obtain ⟨t16, c21, hF⟩ := hF
 have c21 := avAgg_some c21
 subst c21
 refine WD.b 0 (some 16) (.agg t16) h_17 (extract_tup (h := h_17) e20) ?_
 replace hF := obind_some hF; obtain ⟨v17, e22, hF⟩ := hF
 replace hF := obind_some hF; obtain ⟨t17, c23, hF⟩ := hF
 have c23 := avInt_some c23
 subst c23
 refine WD.b 0 (some 17) (.int .i64 t17) h_17 (extract_tup (h := h_17) e22) ?_
 replace hF := obind_some hF; obtain ⟨v18, e24, hF⟩ := hF
 replace hF := obind_some hF; obtain ⟨t18, c25, hF⟩ := hF
 have c25 := avAgg_some c25
 subst c25
 refine WD.b 0 (some 18) (.agg t18) h_17 (extract_tup (h := h_17) e24) ?_
 replace hF := obind_some hF; obtain ⟨h_26, e27, hF⟩ := hF
 refine WD.eff (h' := h_26) (by kernel_rfl) (by kernel_rfl) (Eq.trans (by kernel_rfl) (store_row (P := Try.prog) (h := h_17) (t := 31) (v := (.agg t16)) (by kernel_rfl) (by kernel_rfl) e27)) (k := 2) (by kernel_rfl) (fun _ => (by kernel_rfl)) (by decide) ?_
 refine WD.a 0 (some 4) (.int .i64 t17) h_26 ?_
 replace hF := obind_some hF; obtain ⟨h_28, e29, hF⟩ := hF
 refine WD.eff (h' := h_28) (by kernel_rfl) (by kernel_rfl) (Eq.trans (by kernel_rfl) (store_row (P := Try.prog) (h := h_26) (t := 27) (v := (.agg t18)) (by kernel_rfl) (by kernel_rfl) e29)) (k := 2) (by kernel_rfl) (fun _ => (by kernel_rfl)) (by decide) ?_
 refine WD.nil ?_
 refine Go.weaken (l' := [(0, t0), (2, (newP h)), (3, (newP h_2)), (4, .int .i64 t17), (5, (newP h_13))]) (Fr.c (Fr.c (Fr.c (Fr.c (Fr.c Fr.n))))) ?_
 refine n4 ?_
 refine W.s (fun K30 n30 e30 q30 p30 => ?_)
 refine W.s (fun K31 n31 e31 q31 p31 => ?_)
 refine W.r ?_
 refine WL.a (some 19) (AV.ptr (AHeap.next h_13) 0) h_28 ?_
 replace hF := obind_some hF; obtain ⟨v20, e32, hF⟩ := hF
 replace hF := obind_some hF; obtain ⟨t20, c33, hF⟩ := hF
 have c33 := avInt_some c33
 subst c33
 refine WL.b (some 20) (.int .i64 t20) h_28 (load_cell (P := Try.prog) (h := h_28) (t := 25) (by kernel_rfl) e32) ?_
 replace hF := lett_some hF; obtain ⟨t21, e34, hF⟩ := hF
 refine WL.val (d := (some 21)) (v := .bool t21) (h' := h_28) (by kernel_rfl) (by kernel_rfl) (val_of AV.bool e34 (by kernel_rfl)) ?_
 refine WL.n ?_
 refine Go.weaken (l' := [(0, t0), (2, (newP h)), (3, (newP h_2)), (4, .int .i64 t17), (5, (newP h_13)), (21, .bool t21)]) (Fr.c (Fr.c (Fr.c (Fr.c (Fr.c (Fr.c Fr.n)))))) ?_
 refine n31 ?_
 cases t21 with
 | true =>
  replace hF := ifB_t hF
  refine W.t ?_
  refine W.s (fun K35 n35 e35 q35 p35 => ?_)
  refine W.r ?_
  replace hF := obind_some hF; obtain ⟨t22, e36, hF⟩ := hF
  refine WL.b (some 22) (.agg t22) h_28 (load_row (P := Try.prog) (h := h_28) (t := 27) (by kernel_rfl) (by kernel_rfl) e36) ?_
  replace hF := obind_some hF; obtain ⟨h_37, e38, hF⟩ := hF
  refine WL.e h_37 (store_row (P := Try.prog) (h := h_28) (t := 27) (v := (.agg t22)) (by kernel_rfl) (by kernel_rfl) e38) ?_
  refine WL.n ?_
  refine Go.weaken (l' := [(2, (newP h))]) (Fr.c Fr.n) ?_
  refine n35 ?_
  refine W.ret (by kernel_rfl) ?_
  refine q30 ?_
  replace hF := obind_some hF; obtain ⟨w2, e39, hF⟩ := hF
  obtain ⟨hF, hF2⟩ := ret_inj hF; subst hF; subst hF2
  exact leave_of (rs := [.cell 2 27]) (vs := [.agg w2]) (by kernel_rfl) (res_cell (by kernel_rfl) (load_row (P := Try.prog) (h := h_37) (t := 27) (by kernel_rfl) (by kernel_rfl) e39) res_nil) (by kernel_rfl)
 | false =>
  replace hF := ifB_f hF
  refine W.f ?_
  refine W.skip (by kernel_rfl) ?_
  refine n30 ?_
  refine W.s (fun K40 n40 e40 q40 p40 => ?_)
  refine W.r ?_
  refine WL.a (some 23) t0 h_28 ?_
  refine WL.a (some 24) (.int .i64 t17) h_28 ?_
  replace hF := obind_some hF; obtain ⟨t25, e41, hF⟩ := hF
  refine WL.b (some 25) t25 h_28 (nil_chk (h := h_28) e41) ?_
  replace hF := obind_some hF; obtain ⟨t26, e42, hF⟩ := hF
  refine WL.b (some 26) t26 h_28 (field_ptr (P := Try.prog) (h := h_28) (s := 34) (f := 1) (by kernel_rfl) e42) ?_
  replace hF := obind_some hF; obtain ⟨h_43, e44, hF⟩ := hF
  refine WL.e h_43 (store_row (P := Try.prog) (h := h_28) (t := 3) (v := (.int .i64 t17)) (by kernel_rfl) (by kernel_rfl) e44) ?_
  refine WL.n ?_
  refine Go.weaken (l' := [(0, t0), (2, (newP h)), (3, (newP h_2)), (4, .int .i64 t17)]) (Fr.c (Fr.c (Fr.c (Fr.c Fr.n)))) ?_
  refine n40 ?_
  refine W.s (fun K45 n45 e45 q45 p45 => ?_)
  refine W.s (fun K46 n46 e46 q46 p46 => ?_)
  refine W.r ?_
  refine WL.a (some 27) t0 h_43 ?_
  replace hF := callN_some hF; obtain ⟨r28, h_47, e48, hF⟩ := hF
  replace hF := obind_some hF; obtain ⟨t28, c49, hF⟩ := hF
  have c49 := avBool_some c49
  subst c49
  refine WL.c (hc.ok w0) (some 28) e48 ?_
  replace hF := lett_some hF; obtain ⟨t29, e50, hF⟩ := hF
  refine WL.val (d := (some 29)) (v := .bool t29) (h' := h_47) (by kernel_rfl) (by kernel_rfl) (val_of AV.bool e50 (by kernel_rfl)) ?_
  refine WL.a (some 30) (.bool t29) h_47 ?_
  replace hF := lett_some hF; obtain ⟨j39, e52, hF⟩ := hF
  have J53 : ∀ (t39 : Bool) (h_51 : AHeap), j39 t39 h_51 = some (rR, hR) → WL Try.prog w0 m0 (Func.ntmps Try.f23) (Code.ops (Code.p1 (Code.p1 (Code.p2 (Code.p2 (Code.p2 (Code.p2 (codeOf Try.f23)))))))) 13 K46 [(0, t0), (2, (newP h)), (3, (newP h_2)), (4, .int .i64 t17), (39, .bool t39)] [] h_51 := by
   intro t39 h_51 hF
   rw [e52] at hF
   refine WL.n ?_
   refine Go.weaken (l' := [(0, t0), (2, (newP h)), (3, (newP h_2)), (4, .int .i64 t17), (39, .bool t39)]) (Fr.c (Fr.c (Fr.c (Fr.c (Fr.c Fr.n))))) ?_
   refine n46 ?_
   cases t39 with
   | true =>
    replace hF := ifB_t hF
    refine W.t ?_
    refine W.s (fun K54 n54 e54 q54 p54 => ?_)
    refine W.r ?_
    refine WL.a (some 40) (.int .i64 t17) h_51 ?_
    refine WL.a (some 41) (.agg ([.int .i64 6, .int .i64 t17] : List AV)) h_51 ?_
    replace hF := obind_some hF; obtain ⟨h_55, e56, hF⟩ := hF
    refine WL.e h_55 (store_row (P := Try.prog) (h := h_51) (t := 27) (v := (.agg ([.int .i64 6, .int .i64 t17] : List AV))) (by kernel_rfl) (by kernel_rfl) e56) ?_
    refine WL.n ?_
    refine Go.weaken (l' := [(2, (newP h))]) (Fr.c Fr.n) ?_
    refine n54 ?_
    refine W.ret (by kernel_rfl) ?_
    refine q45 ?_
    replace hF := obind_some hF; obtain ⟨w2_58, e57, hF⟩ := hF
    obtain ⟨hF, hF2⟩ := ret_inj hF; subst hF; subst hF2
    exact leave_of (rs := [.cell 2 27]) (vs := [.agg w2_58]) (by kernel_rfl) (res_cell (by kernel_rfl) (load_row (P := Try.prog) (h := h_55) (t := 27) (by kernel_rfl) (by kernel_rfl) e57) res_nil) (by kernel_rfl)
   | false =>
    replace hF := ifB_f hF
    refine W.f ?_
    refine W.skip (by kernel_rfl) ?_
    refine n45 ?_
    refine W.s (fun K59 n59 e59 q59 p59 => ?_)
    refine W.draw (by kernel_rfl) (hc.ok w0) (plan := [0, 1, 2, 3, 4, 5, 6, 7, 8, 9, 10]) (by kernel_rfl) (by kernel_rfl) (by kernel_rfl) ?_
    refine WD.a 0 (some 42) t0 h_51 ?_
    refine WD.a 0 (some 43) t0 h_51 ?_
    replace hF := obind_some hF; obtain ⟨t44, e60, hF⟩ := hF
    refine WD.b 0 (some 44) t44 h_51 (nil_chk (h := h_51) e60) ?_
    replace hF := obind_some hF; obtain ⟨t45, e61, hF⟩ := hF
    refine WD.b 0 (some 45) t45 h_51 (field_ptr (P := Try.prog) (h := h_51) (s := 34) (f := 2) (by kernel_rfl) e61) ?_
    replace hF := obind_some hF; obtain ⟨v46, e62, hF⟩ := hF
    refine WD.b 1 (some 46) v46 h_51 (load_cell (P := Try.prog) (h := h_51) (t := 24) (by kernel_rfl) e62) ?_
    replace hF := obind_some hF; obtain ⟨t47, e63, hF⟩ := hF
    refine WD.b 1 (some 47) (.agg t47) h_51 (load_row (P := Try.prog) (h := h_51) (t := 31) (by kernel_rfl) (by kernel_rfl) e63) ?_
    replace hF := outK_some hF; obtain ⟨v48, h_64, e65, hF⟩ := hF
    replace hF := chk_some hF; obtain ⟨k66, hF⟩ := hF
    refine WD.val (d := (some 48)) (v := v48) (h' := h_64) (by kernel_rfl) (by kernel_rfl) (Eq.trans (by kernel_rfl) e65) (k := 2) (by kernel_rfl) (fun _ => (Eq.trans (by kernel_rfl) k66)) (by decide) ?_
    replace hF := outK_some hF; obtain ⟨v49, h_67, e68, hF⟩ := hF
    refine WD.val (d := (some 49)) (v := v49) (h' := h_67) (by kernel_rfl) (by kernel_rfl) (Eq.trans (by kernel_rfl) e68) (k := 2) (by kernel_rfl) (fun _ => (by kernel_rfl)) (by decide) ?_
    replace hF := obind_some hF; obtain ⟨t50, e69, hF⟩ := hF
    refine WD.b 0 (some 50) t50 h_67 (nil_chk (h := h_67) e69) ?_
    replace hF := obind_some hF; obtain ⟨t51, e70, hF⟩ := hF
    refine WD.b 0 (some 51) t51 h_67 (field_ptr (P := Try.prog) (h := h_67) (s := 34) (f := 2) (by kernel_rfl) e70) ?_
    replace hF := obind_some hF; obtain ⟨h_71, e72, hF⟩ := hF
    refine WD.eff (h' := h_71) (by kernel_rfl) (by kernel_rfl) (Eq.trans (by kernel_rfl) (store_row (P := Try.prog) (h := h_67) (t := 24) (v := v49) (by kernel_rfl) (by kernel_rfl) e72)) (k := 2) (by kernel_rfl) (fun _ => (by kernel_rfl)) (by decide) ?_
    refine WD.nil ?_
    refine Go.weaken (l' := [(2, (newP h))]) (Fr.c Fr.n) ?_
    refine n59 ?_
    refine W.s (fun K73 n73 e73 q73 p73 => ?_)
    refine W.r ?_
    refine WL.a (some 52) (.agg ([.int .i64 0, .int .i64 0] : List AV)) h_71 ?_
    replace hF := obind_some hF; obtain ⟨h_74, e75, hF⟩ := hF
    refine WL.e h_74 (store_row (P := Try.prog) (h := h_71) (t := 27) (v := (.agg ([.int .i64 0, .int .i64 0] : List AV))) (by kernel_rfl) (by kernel_rfl) e75) ?_
    refine WL.n ?_
    refine Go.weaken (l' := [(2, (newP h))]) (Fr.c Fr.n) ?_
    refine n73 ?_
    refine W.ret (by kernel_rfl) ?_
    replace hF := obind_some hF; obtain ⟨w2_77, e76, hF⟩ := hF
    obtain ⟨hF, hF2⟩ := ret_inj hF; subst hF; subst hF2
    exact leave_of (rs := [.cell 2 27]) (vs := [.agg w2_77]) (by kernel_rfl) (res_cell (by kernel_rfl) (load_row (P := Try.prog) (h := h_74) (t := 27) (by kernel_rfl) (by kernel_rfl) e76) res_nil) (by kernel_rfl)
  cases t29 with
  | true =>
   replace hF := ifB_t hF
   refine WL.a (some 31) t0 h_47 ?_
   replace hF := obind_some hF; obtain ⟨t32, e78, hF⟩ := hF
   refine WL.b (some 32) t32 h_47 (nil_chk (h := h_47) e78) ?_
   replace hF := obind_some hF; obtain ⟨t33, e79, hF⟩ := hF
   refine WL.b (some 33) t33 h_47 (field_ptr (P := Try.prog) (h := h_47) (s := 34) (f := 0) (by kernel_rfl) e79) ?_
   replace hF := obind_some hF; obtain ⟨v34, e80, hF⟩ := hF
   replace hF := obind_some hF; obtain ⟨t34, c81, hF⟩ := hF
   have c81 := avStr_some c81
   subst c81
   refine WL.b (some 34) (strA t34) h_47 (load_cell (P := Try.prog) (h := h_47) (t := 9) (by kernel_rfl) e80) ?_
   refine WL.a (some 35) (.int .i64 t17) h_47 ?_
   replace hF := obind_some hF; obtain ⟨t36, e82, hF⟩ := hF
   refine WL.b (some 36) (.int .u8 t36) h_47 (index_str (P := Try.prog) (h := h_47) (t := 9) (k := .i64) (by kernel_rfl) e82) ?_
   replace hF := callN_some hF; obtain ⟨r37, h_83, e84, hF⟩ := hF
   replace hF := obind_some hF; obtain ⟨t37, c85, hF⟩ := hF
   have c85 := avBool_some c85
   subst c85
   refine WL.c (hc.ok w0) (some 37) e84 ?_
   replace hF := lett_some hF; obtain ⟨t38, e86, hF⟩ := hF
   refine WL.val (d := (some 38)) (v := .bool t38) (h' := h_83) (by kernel_rfl) (by kernel_rfl) (val_of AV.bool e86 (by kernel_rfl)) ?_
   refine WL.a (some 39) (.bool t38) h_83 ?_
   exact WL.weaken (Fr.c (Fr.c (Fr.c (Fr.c (Fr.c Fr.n))))) (J53 _ _ hF)
  | false =>
   replace hF := ifB_f hF
   refine WL.o (some 31) ?_
   refine WL.o (some 32) ?_
   refine WL.o (some 33) ?_
   refine WL.o (some 34) ?_
   refine WL.o (some 35) ?_
   refine WL.o (some 36) ?_
   refine WL.o (some 37) ?_
   refine WL.o (some 38) ?_
   refine WL.a (some 39) (.bool false) h_47 ?_
   exact WL.weaken (Fr.c (Fr.c (Fr.c (Fr.c (Fr.c Fr.n))))) (J53 _ _ hF)
noncomputable def lex_lexer_token_fn (call : CallF) (n : Nat) : FnT := fun args h => match args with
 | [x0] => lex_lexer_token call n x0 h
 | _ => none
set_option maxRecDepth 100000 in
theorem lex_lexer_token_fn_eq (call : CallF) (n : Nat) (t0 : AV) (h : AHeap) : lex_lexer_token_fn call n [t0] h = lex_lexer_token call n t0 h :=
 rfl
theorem lex_lexer_token_holds {call : CallF} (hc : SaysAll Try.prog call) (n : Nat) : Holds Try.prog 23 (lex_lexer_token_fn call n) := by
 intro args h r h2 e
 unfold lex_lexer_token_fn at e
 split at e
 ·exact lex_lexer_token_ok hc e
 ·cases e

noncomputable def lex_read (call : CallF) (_ : Nat) (t0 : Bytes) (t1 : Int) (h : AHeap) : R :=
 lett (newH h 31 [.int .i64 0, .str 0 0, .int .i64 0, .int .i64 0]) fun h_2 =>
 lett (newH h_2 27 [.int .i64 0, .int .i64 0]) fun h_4 =>
 obind (idxS t0 t1) fun t10 =>
 callN (call 15 [.int .u8 t10] h_4) fun r13 h_11 =>
 obind (avBool r13) fun t13 =>
 ifB t13
 (
  callN (call 37 [strA t0, .int .i64 t1] h_11) fun r16 h_15 =>
  obind (extT 0 r16) fun v17 =>
  obind (avAgg v17) fun t17 =>
  obind (extT 1 r16) fun v18 =>
  obind (avInt .i64 v18) fun t18 =>
  obind (extT 2 r16) fun v19 =>
  obind (avAgg v19) fun t19 =>
  obind (stRow h_15 4 t17 (newP h)) fun h_23 =>
  obind (stRow h_23 2 t19 (newP h_2)) fun h_25 =>
  obind (ldRow h_25 4 (newP h)) fun w4 =>
  obind (ldRow h_25 2 (newP h_2)) fun w6 =>
  some (.ret (.tup [.agg w4, .int .i64 t18, .agg w6]), h_25))
 (
  callN (call 29 [.int .u8 t10] h_11) fun r22 h_30 =>
  obind (avBool r22) fun t22 =>
  ifB t22
  (
   callN (call 38 [strA t0, .int .i64 t1] h_30) fun r25 h_34 =>
   obind (extT 0 r25) fun v26 =>
   obind (avAgg v26) fun t26 =>
   obind (extT 1 r25) fun v27 =>
   obind (avInt .i64 v27) fun t27 =>
   obind (extT 2 r25) fun v28 =>
   obind (avAgg v28) fun t28 =>
   obind (stRow h_34 4 t26 (newP h)) fun h_42 =>
   obind (stRow h_42 2 t28 (newP h_2)) fun h_44 =>
   obind (ldRow h_44 4 (newP h)) fun w4_47 =>
   obind (ldRow h_44 2 (newP h_2)) fun w6_49 =>
   some (.ret (.tup [.agg w4_47, .int .i64 t27, .agg w6_49]), h_44))
  (
   lett ((t10 : Int) == 34) fun (t31 : Bool) =>
   ifB t31
   (
    callN (call 39 [strA t0, .int .i64 t1] h_30) fun r34 h_53 =>
    obind (extT 0 r34) fun v35 =>
    obind (avAgg v35) fun t35 =>
    obind (extT 1 r34) fun v36 =>
    obind (avInt .i64 v36) fun t36 =>
    obind (extT 2 r34) fun v37 =>
    obind (avAgg v37) fun t37 =>
    obind (stRow h_53 4 t35 (newP h)) fun h_61 =>
    obind (stRow h_61 2 t37 (newP h_2)) fun h_63 =>
    obind (ldRow h_63 4 (newP h)) fun w4_66 =>
    obind (ldRow h_63 2 (newP h_2)) fun w6_68 =>
    some (.ret (.tup [.agg w4_66, .int .i64 t36, .agg w6_68]), h_63))
   (
    lett ((t10 : Int) == 60) fun (t40 : Bool) =>
    lett (fun (t44 : Bool) (h_71 : AHeap) =>
     lett (fun (t48 : Bool) (h_74 : AHeap) =>
      ifB t48
      (
       lett (IntKind.i64.wrap (t1 + 1)) fun (t52 : Int) =>
       obind (sliceS t0 t1 t52) fun t53 =>
       lett (IntKind.i64.wrap (t1 + 1)) fun (t57 : Int) =>
       obind (stRow h_74 4 ([.int .i64 5, strA t53, .int .i64 0, .int .i64 t1] : List AV) (newP h)) fun h_81 =>
       obind (stRow h_81 2 ([.int .i64 0, .int .i64 0] : List AV) (newP h_2)) fun h_83 =>
       obind (ldRow h_83 4 (newP h)) fun w4_86 =>
       obind (ldRow h_83 2 (newP h_2)) fun w6_88 =>
       some (.ret (.tup [.agg w4_86, .int .i64 t57, .agg w6_88]), h_83))
      (
       obind (stRow h_74 4 ([.int .i64 0, .str 0 0, .int .i64 0, .int .i64 0] : List AV) (newP h)) fun h_90 =>
       obind (stRow h_90 2 ([.int .i64 6, .int .i64 t1] : List AV) (newP h_2)) fun h_92 =>
       obind (ldRow h_92 4 (newP h)) fun w4_95 =>
       obind (ldRow h_92 2 (newP h_2)) fun w6_97 =>
       some (.ret (.tup [.agg w4_95, .int .i64 0, .agg w6_97]), h_92))) fun j48 =>
     ifB t44
     (
      j48 true h_71)
     (
      lett ((t10 : Int) == 125) fun (t47 : Bool) =>
      j48 t47 h_71)) fun j44 =>
    ifB t40
    (
     j44 true h_30)
    (
     lett ((t10 : Int) == 123) fun (t43 : Bool) =>
     j44 t43 h_30))))
set_option maxHeartbeats 4000000 in
set_option maxRecDepth 20000 in
theorem lex_read_ok {call : CallF} (hc : SaysAll Try.prog call) {n : Nat} {t0 : Bytes} {t1 : Int} {h : AHeap} {rR : ARes} {hR : AHeap} (hF : lex_read call n t0 t1 h = some (rR, hR)) : Says Try.prog 33 [strA t0, .int .i64 t1] h rR hR := by
 unfold lex_read at hF
 refine says_of (fn := Try.f33) Try.func33 (c := codeOf Try.f33) (by kernel_rfl) (by kernel_rfl) (fun w0 m0 => ?_)
 refine W.weaken (l' := [(0, strA t0), (1, .int .i64 t1)]) (Fr.c (Fr.c Fr.n)) ?_
 refine W.s (fun K1 n1 e1 q1 p1 => ?_)
 refine W.r ?_
 replace hF := lett_some hF; obtain ⟨h_2, e3, hF⟩ := hF
 refine WL.val (d := (some 4)) (v := (newP h)) (h' := h_2) (by kernel_rfl) (by kernel_rfl) (val_ofH e3 (by kernel_rfl)) ?_
 refine WL.a (some 5) (.int .i64 0) h_2 ?_
 replace hF := lett_some hF; obtain ⟨h_4, e5, hF⟩ := hF
 refine WL.val (d := (some 6)) (v := (newP h_2)) (h' := h_4) (by kernel_rfl) (by kernel_rfl) (val_ofH e5 (by kernel_rfl)) ?_
 refine WL.n ?_
 refine Go.weaken (l' := [(0, strA t0), (1, .int .i64 t1), (4, (newP h)), (6, (newP h_2))]) (Fr.c (Fr.c (Fr.c (Fr.c Fr.n)))) ?_
 refine n1 ?_
 refine W.s (fun K6 n6 e6 q6 p6 => ?_)
 refine W.s (fun K7 n7 e7 q7 p7 => ?_)
 refine W.r ?_
 refine WL.a (some 8) (strA t0) h_4 ?_
 refine WL.a (some 9) (.int .i64 t1) h_4 ?_
 replace hF := obind_some hF; obtain ⟨t10, e8, hF⟩ := hF
 refine WL.b (some 10) (.int .u8 t10) h_4 (index_str (P := Try.prog) (h := h_4) (t := 9) (k := .i64) (by kernel_rfl) e8) ?_
 refine WL.a (some 7) (.int .u8 t10) h_4 ?_
 refine WL.n ?_
 refine Go.weaken (l' := [(0, strA t0), (1, .int .i64 t1), (4, (newP h)), (6, (newP h_2)), (7, .int .u8 t10)]) (Fr.c (Fr.c (Fr.c (Fr.c (Fr.c Fr.n))))) ?_
 refine n7 ?_
 refine W.blockK (by kernel_rfl) (fun K9 n9 s9 o9 q9 p9 => ?_)
 refine W.s (fun K10 n10 e10 q10 p10 => ?_)
 refine W.r ?_
 refine WL.a (some 12) (.int .u8 t10) h_4 ?_
 replace hF := callN_some hF; obtain ⟨r13, h_11, e12, hF⟩ := hF
 replace hF := obind_some hF; obtain ⟨t13, c13, hF⟩ := hF
 have c13 := avBool_some c13
 subst c13
 refine WL.c (hc.ok w0) (some 13) e12 ?_
 refine WL.a (some 11) (.bool t13) h_11 ?_
 refine WL.n ?_
 refine Go.weaken (l' := [(0, strA t0), (1, .int .i64 t1), (4, (newP h)), (6, (newP h_2)), (7, .int .u8 t10), (11, .bool t13)]) (Fr.c (Fr.c (Fr.c (Fr.c (Fr.c (Fr.c Fr.n)))))) ?_
 refine n10 ?_
 cases t13 with
 | true =>
  replace hF := ifB_t hF
  refine W.t ?_
  refine W.s (fun K14 n14 e14 q14 p14 => ?_)
  refine W.r ?_
  refine WL.a (some 14) (strA t0) h_11 ?_
  refine WL.a (some 15) (.int .i64 t1) h_11 ?_
  replace hF := callN_some hF; obtain ⟨r16, h_15, e16, hF⟩ := hF
  refine WL.c (hc.ok w0) (some 16) e16 ?_
  replace hF := obind_some hF; obtain ⟨v17, e17, hF⟩ := hF
  replace hF := obind_some hF; obtain ⟨t17, c18, hF⟩ := hF
  have c18 := avAgg_some c18
  subst c18
  refine WL.b (some 17) (.agg t17) h_15 (extract_tup (h := h_15) e17) ?_
  replace hF := obind_some hF; obtain ⟨v18, e19, hF⟩ := hF
  replace hF := obind_some hF; obtain ⟨t18, c20, hF⟩ := hF
  have c20 := avInt_some c20
  subst c20
  refine WL.b (some 18) (.int .i64 t18) h_15 (extract_tup (h := h_15) e19) ?_
  replace hF := obind_some hF; obtain ⟨v19, e21, hF⟩ := hF
  replace hF := obind_some hF; obtain ⟨t19, c22, hF⟩ := hF
  have c22 := avAgg_some c22
  subst c22
  refine WL.b (some 19) (.agg t19) h_15 (extract_tup (h := h_15) e21) ?_
  replace hF := obind_some hF; obtain ⟨h_23, e24, hF⟩ := hF
  refine WL.e h_23 (store_row (P := Try.prog) (h := h_15) (t := 31) (v := (.agg t17)) (by kernel_rfl) (by kernel_rfl) e24) ?_
  refine WL.a (some 5) (.int .i64 t18) h_23 ?_
  replace hF := obind_some hF; obtain ⟨h_25, e26, hF⟩ := hF
  refine WL.e h_25 (store_row (P := Try.prog) (h := h_23) (t := 27) (v := (.agg t19)) (by kernel_rfl) (by kernel_rfl) e26) ?_
  refine WL.n ?_
  refine Go.weaken (l' := [(4, (newP h)), (5, .int .i64 t18), (6, (newP h_2))]) (Fr.c (Fr.c (Fr.c Fr.n))) ?_
  refine n14 ?_
  refine W.ret (by kernel_rfl) ?_
  refine q9 ?_
  refine q6 ?_
  replace hF := obind_some hF; obtain ⟨w4, e27, hF⟩ := hF
  replace hF := obind_some hF; obtain ⟨w6, e28, hF⟩ := hF
  obtain ⟨hF, hF2⟩ := ret_inj hF; subst hF; subst hF2
  exact leave_of (rs := [.cell 4 31, .tmp 5, .cell 6 27]) (vs := [.agg w4, .int .i64 t18, .agg w6]) (by kernel_rfl) (res_cell (by kernel_rfl) (load_row (P := Try.prog) (h := h_25) (t := 31) (by kernel_rfl) (by kernel_rfl) e27) (res_tmp (by kernel_rfl) (res_cell (by kernel_rfl) (load_row (P := Try.prog) (h := h_25) (t := 27) (by kernel_rfl) (by kernel_rfl) e28) res_nil))) (by kernel_rfl)
 | false =>
  replace hF := ifB_f hF
  refine W.f ?_
  refine W.s (fun K29 n29 e29 q29 p29 => ?_)
  refine W.r ?_
  refine WL.a (some 21) (.int .u8 t10) h_11 ?_
  replace hF := callN_some hF; obtain ⟨r22, h_30, e31, hF⟩ := hF
  replace hF := obind_some hF; obtain ⟨t22, c32, hF⟩ := hF
  have c32 := avBool_some c32
  subst c32
  refine WL.c (hc.ok w0) (some 22) e31 ?_
  refine WL.a (some 20) (.bool t22) h_30 ?_
  refine WL.n ?_
  refine Go.weaken (l' := [(0, strA t0), (1, .int .i64 t1), (4, (newP h)), (6, (newP h_2)), (7, .int .u8 t10), (20, .bool t22)]) (Fr.c (Fr.c (Fr.c (Fr.c (Fr.c (Fr.c Fr.n)))))) ?_
  refine n29 ?_
  cases t22 with
  | true =>
   replace hF := ifB_t hF
   refine W.t ?_
   refine W.s (fun K33 n33 e33 q33 p33 => ?_)
   refine W.r ?_
   refine WL.a (some 23) (strA t0) h_30 ?_
   refine WL.a (some 24) (.int .i64 t1) h_30 ?_
   replace hF := callN_some hF; obtain ⟨r25, h_34, e35, hF⟩ := hF
   refine WL.c (hc.ok w0) (some 25) e35 ?_
   replace hF := obind_some hF; obtain ⟨v26, e36, hF⟩ := hF
   replace hF := obind_some hF; obtain ⟨t26, c37, hF⟩ := hF
   have c37 := avAgg_some c37
   subst c37
   refine WL.b (some 26) (.agg t26) h_34 (extract_tup (h := h_34) e36) ?_
   replace hF := obind_some hF; obtain ⟨v27, e38, hF⟩ := hF
   replace hF := obind_some hF; obtain ⟨t27, c39, hF⟩ := hF
   have c39 := avInt_some c39
   subst c39
   refine WL.b (some 27) (.int .i64 t27) h_34 (extract_tup (h := h_34) e38) ?_
   replace hF := obind_some hF; obtain ⟨v28, e40, hF⟩ := hF
   replace hF := obind_some hF; obtain ⟨t28, c41, hF⟩ := hF
   have c41 := avAgg_some c41
   subst c41
   refine WL.b (some 28) (.agg t28) h_34 (extract_tup (h := h_34) e40) ?_
   replace hF := obind_some hF; obtain ⟨h_42, e43, hF⟩ := hF
   refine WL.e h_42 (store_row (P := Try.prog) (h := h_34) (t := 31) (v := (.agg t26)) (by kernel_rfl) (by kernel_rfl) e43) ?_
   refine WL.a (some 5) (.int .i64 t27) h_42 ?_
   replace hF := obind_some hF; obtain ⟨h_44, e45, hF⟩ := hF
   refine WL.e h_44 (store_row (P := Try.prog) (h := h_42) (t := 27) (v := (.agg t28)) (by kernel_rfl) (by kernel_rfl) e45) ?_
   refine WL.n ?_
   refine Go.weaken (l' := [(4, (newP h)), (5, .int .i64 t27), (6, (newP h_2))]) (Fr.c (Fr.c (Fr.c Fr.n))) ?_
   refine n33 ?_
   refine W.ret (by kernel_rfl) ?_
   refine q9 ?_
   refine q6 ?_
   replace hF := obind_some hF; obtain ⟨w4_47, e46, hF⟩ := hF
   replace hF := obind_some hF; obtain ⟨w6_49, e48, hF⟩ := hF
   obtain ⟨hF, hF2⟩ := ret_inj hF; subst hF; subst hF2
   exact leave_of (rs := [.cell 4 31, .tmp 5, .cell 6 27]) (vs := [.agg w4_47, .int .i64 t27, .agg w6_49]) (by kernel_rfl) (res_cell (by kernel_rfl) (load_row (P := Try.prog) (h := h_44) (t := 31) (by kernel_rfl) (by kernel_rfl) e46) (res_tmp (by kernel_rfl) (res_cell (by kernel_rfl) (load_row (P := Try.prog) (h := h_44) (t := 27) (by kernel_rfl) (by kernel_rfl) e48) res_nil))) (by kernel_rfl)
  | false =>
   replace hF := ifB_f hF
   refine W.f ?_
   refine W.s (fun K50 n50 e50 q50 p50 => ?_)
   refine W.r ?_
   refine WL.a (some 30) (.int .u8 t10) h_30 ?_
   replace hF := lett_some hF; obtain ⟨t31, e51, hF⟩ := hF
   refine WL.val (d := (some 31)) (v := .bool t31) (h' := h_30) (by kernel_rfl) (by kernel_rfl) (val_of AV.bool e51 (by kernel_rfl)) ?_
   refine WL.a (some 29) (.bool t31) h_30 ?_
   refine WL.n ?_
   refine Go.weaken (l' := [(0, strA t0), (1, .int .i64 t1), (4, (newP h)), (6, (newP h_2)), (7, .int .u8 t10), (29, .bool t31)]) (Fr.c (Fr.c (Fr.c (Fr.c (Fr.c (Fr.c Fr.n)))))) ?_
   refine n50 ?_
   cases t31 with
   | true =>
    replace hF := ifB_t hF
    refine W.t ?_
    refine W.s (fun K52 n52 e52 q52 p52 => ?_)
    refine W.r ?_
    refine WL.a (some 32) (strA t0) h_30 ?_
    refine WL.a (some 33) (.int .i64 t1) h_30 ?_
    replace hF := callN_some hF; obtain ⟨r34, h_53, e54, hF⟩ := hF
    refine WL.c (hc.ok w0) (some 34) e54 ?_
    replace hF := obind_some hF; obtain ⟨v35, e55, hF⟩ := hF
    replace hF := obind_some hF; obtain ⟨t35, c56, hF⟩ := hF
    have c56 := avAgg_some c56
    subst c56
    refine WL.b (some 35) (.agg t35) h_53 (extract_tup (h := h_53) e55) ?_
    replace hF := obind_some hF; obtain ⟨v36, e57, hF⟩ := hF
    replace hF := obind_some hF; obtain ⟨t36, c58, hF⟩ := hF
    have c58 := avInt_some c58
    subst c58
    refine WL.b (some 36) (.int .i64 t36) h_53 (extract_tup (h := h_53) e57) ?_
    replace hF := obind_some hF; obtain ⟨v37, e59, hF⟩ := hF
    replace hF := obind_some hF; obtain ⟨t37, c60, hF⟩ := hF
    have c60 := avAgg_some c60
    subst c60
    refine WL.b (some 37) (.agg t37) h_53 (extract_tup (h := h_53) e59) ?_
    replace hF := obind_some hF; obtain ⟨h_61, e62, hF⟩ := hF
    refine WL.e h_61 (store_row (P := Try.prog) (h := h_53) (t := 31) (v := (.agg t35)) (by kernel_rfl) (by kernel_rfl) e62) ?_
    refine WL.a (some 5) (.int .i64 t36) h_61 ?_
    replace hF := obind_some hF; obtain ⟨h_63, e64, hF⟩ := hF
    refine WL.e h_63 (store_row (P := Try.prog) (h := h_61) (t := 27) (v := (.agg t37)) (by kernel_rfl) (by kernel_rfl) e64) ?_
    refine WL.n ?_
    refine Go.weaken (l' := [(4, (newP h)), (5, .int .i64 t36), (6, (newP h_2))]) (Fr.c (Fr.c (Fr.c Fr.n))) ?_
    refine n52 ?_
    refine W.ret (by kernel_rfl) ?_
    refine q9 ?_
    refine q6 ?_
    replace hF := obind_some hF; obtain ⟨w4_66, e65, hF⟩ := hF
    replace hF := obind_some hF; obtain ⟨w6_68, e67, hF⟩ := hF
    obtain ⟨hF, hF2⟩ := ret_inj hF; subst hF; subst hF2
    exact leave_of (rs := [.cell 4 31, .tmp 5, .cell 6 27]) (vs := [.agg w4_66, .int .i64 t36, .agg w6_68]) (by kernel_rfl) (res_cell (by kernel_rfl) (load_row (P := Try.prog) (h := h_63) (t := 31) (by kernel_rfl) (by kernel_rfl) e65) (res_tmp (by kernel_rfl) (res_cell (by kernel_rfl) (load_row (P := Try.prog) (h := h_63) (t := 27) (by kernel_rfl) (by kernel_rfl) e67) res_nil))) (by kernel_rfl)
   | false =>
    replace hF := ifB_f hF
    refine W.f ?_
    refine W.s (fun K69 n69 e69 q69 p69 => ?_)
    refine W.r ?_
    refine WL.a (some 39) (.int .u8 t10) h_30 ?_
    replace hF := lett_some hF; obtain ⟨t40, e70, hF⟩ := hF
    refine WL.val (d := (some 40)) (v := .bool t40) (h' := h_30) (by kernel_rfl) (by kernel_rfl) (val_of AV.bool e70 (by kernel_rfl)) ?_
    refine WL.a (some 41) (.bool t40) h_30 ?_
    replace hF := lett_some hF; obtain ⟨j44, e72, hF⟩ := hF
    have J73 : ∀ (t44 : Bool) (h_71 : AHeap), j44 t44 h_71 = some (rR, hR) → WL Try.prog w0 m0 (Func.ntmps Try.f33) (Code.ops (Code.p1 (Code.p2 (Code.p2 (Code.p2 (Code.p2 (Code.p2 (Code.p2 (Code.p1 (Code.p2 (Code.p1 (Code.p2 (codeOf Try.f33))))))))))))) 6 K69 [(0, strA t0), (1, .int .i64 t1), (4, (newP h)), (6, (newP h_2)), (7, .int .u8 t10), (44, .bool t44)] [] h_71 := by
     intro t44 h_71 hF
     rw [e72] at hF
     refine WL.a (some 45) (.bool t44) h_71 ?_
     replace hF := lett_some hF; obtain ⟨j48, e75, hF⟩ := hF
     have J76 : ∀ (t48 : Bool) (h_74 : AHeap), j48 t48 h_74 = some (rR, hR) → WL Try.prog w0 m0 (Func.ntmps Try.f33) (Code.ops (Code.p1 (Code.p2 (Code.p2 (Code.p2 (Code.p2 (Code.p2 (Code.p2 (Code.p1 (Code.p2 (Code.p1 (Code.p2 (codeOf Try.f33))))))))))))) 10 K69 [(0, strA t0), (1, .int .i64 t1), (4, (newP h)), (6, (newP h_2)), (48, .bool t48)] [] h_74 := by
      intro t48 h_74 hF
      rw [e75] at hF
      refine WL.a (some 38) (.bool t48) h_74 ?_
      refine WL.n ?_
      refine Go.weaken (l' := [(0, strA t0), (1, .int .i64 t1), (4, (newP h)), (6, (newP h_2)), (38, .bool t48)]) (Fr.c (Fr.c (Fr.c (Fr.c (Fr.c Fr.n))))) ?_
      refine n69 ?_
      cases t48 with
      | true =>
       replace hF := ifB_t hF
       refine W.t ?_
       refine W.s (fun K77 n77 e77 q77 p77 => ?_)
       refine W.r ?_
       refine WL.a (some 49) (strA t0) h_74 ?_
       refine WL.a (some 50) (.int .i64 t1) h_74 ?_
       refine WL.a (some 51) (.int .i64 t1) h_74 ?_
       replace hF := lett_some hF; obtain ⟨t52, e78, hF⟩ := hF
       refine WL.val (d := (some 52)) (v := .int .i64 t52) (h' := h_74) (by kernel_rfl) (by kernel_rfl) (val_of (AV.int .i64) e78 (by kernel_rfl)) ?_
       replace hF := obind_some hF; obtain ⟨t53, e79, hF⟩ := hF
       refine WL.b (some 53) (strA t53) h_74 (slice_str (P := Try.prog) (h := h_74) (t := 9) (A := (some (.int .i64 t1))) (B := (some (.int .i64 t52))) (by kernel_rfl) (.inl ⟨_, rfl⟩) (.inl ⟨_, rfl⟩) e79) ?_
       refine WL.a (some 54) (.int .i64 t1) h_74 ?_
       refine WL.a (some 55) (.agg ([.int .i64 5, strA t53, .int .i64 0, .int .i64 t1] : List AV)) h_74 ?_
       refine WL.a (some 56) (.int .i64 t1) h_74 ?_
       replace hF := lett_some hF; obtain ⟨t57, e80, hF⟩ := hF
       refine WL.val (d := (some 57)) (v := .int .i64 t57) (h' := h_74) (by kernel_rfl) (by kernel_rfl) (val_of (AV.int .i64) e80 (by kernel_rfl)) ?_
       refine WL.a (some 58) (.agg ([.int .i64 0, .int .i64 0] : List AV)) h_74 ?_
       replace hF := obind_some hF; obtain ⟨h_81, e82, hF⟩ := hF
       refine WL.e h_81 (store_row (P := Try.prog) (h := h_74) (t := 31) (v := (.agg ([.int .i64 5, strA t53, .int .i64 0, .int .i64 t1] : List AV))) (by kernel_rfl) (by kernel_rfl) e82) ?_
       refine WL.a (some 5) (.int .i64 t57) h_81 ?_
       replace hF := obind_some hF; obtain ⟨h_83, e84, hF⟩ := hF
       refine WL.e h_83 (store_row (P := Try.prog) (h := h_81) (t := 27) (v := (.agg ([.int .i64 0, .int .i64 0] : List AV))) (by kernel_rfl) (by kernel_rfl) e84) ?_
       refine WL.n ?_
       refine Go.weaken (l' := [(4, (newP h)), (5, .int .i64 t57), (6, (newP h_2))]) (Fr.c (Fr.c (Fr.c Fr.n))) ?_
       refine n77 ?_
       refine W.ret (by kernel_rfl) ?_
       refine q9 ?_
       refine q6 ?_
       replace hF := obind_some hF; obtain ⟨w4_86, e85, hF⟩ := hF
       replace hF := obind_some hF; obtain ⟨w6_88, e87, hF⟩ := hF
       obtain ⟨hF, hF2⟩ := ret_inj hF; subst hF; subst hF2
       exact leave_of (rs := [.cell 4 31, .tmp 5, .cell 6 27]) (vs := [.agg w4_86, .int .i64 t57, .agg w6_88]) (by kernel_rfl) (res_cell (by kernel_rfl) (load_row (P := Try.prog) (h := h_83) (t := 31) (by kernel_rfl) (by kernel_rfl) e85) (res_tmp (by kernel_rfl) (res_cell (by kernel_rfl) (load_row (P := Try.prog) (h := h_83) (t := 27) (by kernel_rfl) (by kernel_rfl) e87) res_nil))) (by kernel_rfl)
      | false =>
       replace hF := ifB_f hF
       refine W.f ?_
       refine W.skip (by kernel_rfl) ?_
       refine n9 ?_
       refine n6 ?_
       refine W.s (fun K89 n89 e89 q89 p89 => ?_)
       refine W.r ?_
       refine WL.a (some 59) (.agg ([.int .i64 0, .str 0 0, .int .i64 0, .int .i64 0] : List AV)) h_74 ?_
       refine WL.a (some 60) (.int .i64 t1) h_74 ?_
       refine WL.a (some 61) (.agg ([.int .i64 6, .int .i64 t1] : List AV)) h_74 ?_
       replace hF := obind_some hF; obtain ⟨h_90, e91, hF⟩ := hF
       refine WL.e h_90 (store_row (P := Try.prog) (h := h_74) (t := 31) (v := (.agg ([.int .i64 0, .str 0 0, .int .i64 0, .int .i64 0] : List AV))) (by kernel_rfl) (by kernel_rfl) e91) ?_
       refine WL.a (some 5) (.int .i64 0) h_90 ?_
       replace hF := obind_some hF; obtain ⟨h_92, e93, hF⟩ := hF
       refine WL.e h_92 (store_row (P := Try.prog) (h := h_90) (t := 27) (v := (.agg ([.int .i64 6, .int .i64 t1] : List AV))) (by kernel_rfl) (by kernel_rfl) e93) ?_
       refine WL.n ?_
       refine Go.weaken (l' := [(4, (newP h)), (5, .int .i64 0), (6, (newP h_2))]) (Fr.c (Fr.c (Fr.c Fr.n))) ?_
       refine n89 ?_
       refine W.ret (by kernel_rfl) ?_
       replace hF := obind_some hF; obtain ⟨w4_95, e94, hF⟩ := hF
       replace hF := obind_some hF; obtain ⟨w6_97, e96, hF⟩ := hF
       obtain ⟨hF, hF2⟩ := ret_inj hF; subst hF; subst hF2
       exact leave_of (rs := [.cell 4 31, .tmp 5, .cell 6 27]) (vs := [.agg w4_95, .int .i64 0, .agg w6_97]) (by kernel_rfl) (res_cell (by kernel_rfl) (load_row (P := Try.prog) (h := h_92) (t := 31) (by kernel_rfl) (by kernel_rfl) e94) (res_tmp (by kernel_rfl) (res_cell (by kernel_rfl) (load_row (P := Try.prog) (h := h_92) (t := 27) (by kernel_rfl) (by kernel_rfl) e96) res_nil))) (by kernel_rfl)
     cases t44 with
     | true =>
      replace hF := ifB_t hF
      refine WL.o (some 46) ?_
      refine WL.o (some 47) ?_
      refine WL.a (some 48) (.bool true) h_71 ?_
      exact WL.weaken (Fr.c (Fr.c (Fr.c (Fr.c (Fr.c Fr.n))))) (J76 _ _ hF)
     | false =>
      replace hF := ifB_f hF
      refine WL.a (some 46) (.int .u8 t10) h_71 ?_
      replace hF := lett_some hF; obtain ⟨t47, e98, hF⟩ := hF
      refine WL.val (d := (some 47)) (v := .bool t47) (h' := h_71) (by kernel_rfl) (by kernel_rfl) (val_of AV.bool e98 (by kernel_rfl)) ?_
      refine WL.a (some 48) (.bool t47) h_71 ?_
      exact WL.weaken (Fr.c (Fr.c (Fr.c (Fr.c (Fr.c Fr.n))))) (J76 _ _ hF)
    cases t40 with
    | true =>
     replace hF := ifB_t hF
     refine WL.o (some 42) ?_
     refine WL.o (some 43) ?_
     refine WL.a (some 44) (.bool true) h_30 ?_
     exact WL.weaken (Fr.c (Fr.c (Fr.c (Fr.c (Fr.c (Fr.c Fr.n)))))) (J73 _ _ hF)
    | false =>
     replace hF := ifB_f hF
     refine WL.a (some 42) (.int .u8 t10) h_30 ?_
     replace hF := lett_some hF; obtain ⟨t43, e99, hF⟩ := hF
     refine WL.val (d := (some 43)) (v := .bool t43) (h' := h_30) (by kernel_rfl) (by kernel_rfl) (val_of AV.bool e99 (by kernel_rfl)) ?_
     refine WL.a (some 44) (.bool t43) h_30 ?_
     exact WL.weaken (Fr.c (Fr.c (Fr.c (Fr.c (Fr.c (Fr.c Fr.n)))))) (J73 _ _ hF)
noncomputable def lex_read_fn (call : CallF) (n : Nat) : FnT := fun args h => match args with
 | [x0, x1] => obind (avStr x0) fun t0 => obind (avInt .i64 x1) fun t1 => lex_read call n t0 t1 h
 | _ => none
set_option maxRecDepth 100000 in
theorem lex_read_fn_eq (call : CallF) (n : Nat) (t0 : Bytes) (t1 : Int) (h : AHeap) : lex_read_fn call n [strA t0, .int .i64 t1] h = lex_read call n t0 t1 h :=
 (Eq.trans (obind_eq (fun t0 => obind (avInt .i64 (.int .i64 t1)) fun t1 => lex_read call n t0 t1 h) (avStr_str t0)) (Eq.trans (obind_eq (fun t1 => lex_read call n t0 t1 h) (avInt_int .i64 t1)) rfl))
theorem lex_read_holds {call : CallF} (hc : SaysAll Try.prog call) (n : Nat) : Holds Try.prog 33 (lex_read_fn call n) := by
 intro args h r h2 e
 unfold lex_read_fn at e
 split at e
 ·replace e := obind_some e; obtain ⟨t0, c0, e⟩ := e; have c0 := avStr_some c0; subst c0
  replace e := obind_some e; obtain ⟨t1, c1, e⟩ := e; have c1 := avInt_some c1; subst c1
  exact lex_read_ok hc e
 ·cases e

noncomputable def lex_readWord (call : CallF) (_ : Nat) (t0 : Bytes) (t1 : Int) (h : AHeap) : R :=
 lett (newH h 31 [.int .i64 0, .str 0 0, .int .i64 0, .int .i64 0]) fun h_2 =>
 lett (newH h_2 27 [.int .i64 0, .int .i64 0]) fun h_4 =>
 callN (call 17 [strA t0, .int .i64 t1] h_4) fun r11 h_7 =>
 obind (extT 0 r11) fun v12 =>
 obind (avInt .i64 v12) fun t12 =>
 obind (extT 1 r11) fun v13 =>
 obind (avInt .i64 v13) fun t13 =>
 lett ((t13 : Int) != 0) fun (t15 : Bool) =>
 ifB t15
 (
  obind (stRow h_7 4 ([.int .i64 0, .str 0 0, .int .i64 0, .int .i64 0] : List AV) (newP h)) fun h_17 =>
  obind (stRow h_17 2 ([.int .i64 t13, .int .i64 t12] : List AV) (newP h_2)) fun h_19 =>
  obind (ldRow h_19 4 (newP h)) fun w4 =>
  obind (ldRow h_19 2 (newP h_2)) fun w6 =>
  some (.ret (.tup [.agg w4, .int .i64 0, .agg w6]), h_19))
 (
  obind (sliceS t0 t1 t12) fun t23 =>
  obind (stRow h_7 4 ([.int .i64 1, strA t23, .int .i64 0, .int .i64 t1] : List AV) (newP h)) fun h_25 =>
  lett (decide (t12 < (lenS t0))) fun (t29 : Bool) =>
  lett (fun (t35 : Bool) (h_30 : AHeap) =>
   lett (fun (t5 : Int) (h_34 : AHeap) =>
    obind (ldRow h_34 4 (newP h)) fun t39 =>
    obind (stRow h_34 4 t39 (newP h)) fun h_37 =>
    obind (stRow h_37 2 ([.int .i64 0, .int .i64 0] : List AV) (newP h_2)) fun h_39 =>
    obind (ldRow h_39 4 (newP h)) fun w4_42 =>
    obind (ldRow h_39 2 (newP h_2)) fun w6_44 =>
    some (.ret (.tup [.agg w4_42, .int .i64 t5, .agg w6_44]), h_39)) fun k33 =>
   ifB t35
   (
    obind (stRow h_30 1 [.int .i64 2] (AV.ptr (AHeap.next h) 0)) fun h_46 =>
    lett (IntKind.i64.wrap (t12 + 1)) fun (t38 : Int) =>
    k33 t38 h_46)
   (
    k33 t12 h_30)) fun j35 =>
  ifB t29
  (
   obind (idxS t0 t12) fun t33 =>
   lett ((t33 : Int) == 58) fun (t34 : Bool) =>
   j35 t34 h_25)
  (
   j35 false h_25))
set_option maxHeartbeats 4000000 in
set_option maxRecDepth 20000 in
theorem lex_readWord_ok {call : CallF} (hc : SaysAll Try.prog call) {n : Nat} {t0 : Bytes} {t1 : Int} {h : AHeap} {rR : ARes} {hR : AHeap} (hF : lex_readWord call n t0 t1 h = some (rR, hR)) : Says Try.prog 37 [strA t0, .int .i64 t1] h rR hR := by
 unfold lex_readWord at hF
 refine says_of (fn := Try.f37) Try.func37 (c := codeOf Try.f37) (by kernel_rfl) (by kernel_rfl) (fun w0 m0 => ?_)
 refine W.weaken (l' := [(0, strA t0), (1, .int .i64 t1)]) (Fr.c (Fr.c Fr.n)) ?_
 refine W.s (fun K1 n1 e1 q1 p1 => ?_)
 refine W.r ?_
 replace hF := lett_some hF; obtain ⟨h_2, e3, hF⟩ := hF
 refine WL.val (d := (some 4)) (v := (newP h)) (h' := h_2) (by kernel_rfl) (by kernel_rfl) (val_ofH e3 (by kernel_rfl)) ?_
 refine WL.a (some 5) (.int .i64 0) h_2 ?_
 replace hF := lett_some hF; obtain ⟨h_4, e5, hF⟩ := hF
 refine WL.val (d := (some 6)) (v := (newP h_2)) (h' := h_4) (by kernel_rfl) (by kernel_rfl) (val_ofH e5 (by kernel_rfl)) ?_
 refine WL.n ?_
 refine Go.weaken (l' := [(0, strA t0), (1, .int .i64 t1), (4, (newP h)), (6, (newP h_2))]) (Fr.c (Fr.c (Fr.c (Fr.c Fr.n)))) ?_
 refine n1 ?_
 refine W.s (fun K6 n6 e6 q6 p6 => ?_)
 refine W.r ?_
 refine WL.a (some 9) (strA t0) h_4 ?_
 refine WL.a (some 10) (.int .i64 t1) h_4 ?_
 replace hF := callN_some hF; obtain ⟨r11, h_7, e8, hF⟩ := hF
 refine WL.c (hc.ok w0) (some 11) e8 ?_
 refine WL.a (some 8) r11 h_7 ?_
 replace hF := obind_some hF; obtain ⟨v12, e9, hF⟩ := hF
 replace hF := obind_some hF; obtain ⟨t12, c10, hF⟩ := hF
 have c10 := avInt_some c10
 subst c10
 refine WL.b (some 12) (.int .i64 t12) h_7 (extract_tup (h := h_7) e9) ?_
 replace hF := obind_some hF; obtain ⟨v13, e11, hF⟩ := hF
 replace hF := obind_some hF; obtain ⟨t13, c12, hF⟩ := hF
 have c12 := avInt_some c12
 subst c12
 refine WL.b (some 13) (.int .i64 t13) h_7 (extract_tup (h := h_7) e11) ?_
 refine WL.a (some 5) (.int .i64 t12) h_7 ?_
 refine WL.a (some 7) (.int .i64 t13) h_7 ?_
 refine WL.n ?_
 refine Go.weaken (l' := [(0, strA t0), (1, .int .i64 t1), (4, (newP h)), (5, .int .i64 t12), (6, (newP h_2)), (7, .int .i64 t13)]) (Fr.c (Fr.c (Fr.c (Fr.c (Fr.c (Fr.c Fr.n)))))) ?_
 refine n6 ?_
 refine W.s (fun K13 n13 e13 q13 p13 => ?_)
 refine W.s (fun K14 n14 e14 q14 p14 => ?_)
 refine W.r ?_
 refine WL.a (some 14) (.int .i64 t13) h_7 ?_
 replace hF := lett_some hF; obtain ⟨t15, e15, hF⟩ := hF
 refine WL.val (d := (some 15)) (v := .bool t15) (h' := h_7) (by kernel_rfl) (by kernel_rfl) (val_of AV.bool e15 (by kernel_rfl)) ?_
 refine WL.n ?_
 refine Go.weaken (l' := [(0, strA t0), (1, .int .i64 t1), (4, (newP h)), (5, .int .i64 t12), (6, (newP h_2)), (7, .int .i64 t13), (15, .bool t15)]) (Fr.c (Fr.c (Fr.c (Fr.c (Fr.c (Fr.c (Fr.c Fr.n))))))) ?_
 refine n14 ?_
 cases t15 with
 | true =>
  replace hF := ifB_t hF
  refine W.t ?_
  refine W.s (fun K16 n16 e16 q16 p16 => ?_)
  refine W.r ?_
  refine WL.a (some 16) (.agg ([.int .i64 0, .str 0 0, .int .i64 0, .int .i64 0] : List AV)) h_7 ?_
  refine WL.a (some 17) (.int .i64 t13) h_7 ?_
  refine WL.a (some 18) (.int .i64 t12) h_7 ?_
  refine WL.a (some 19) (.agg ([.int .i64 t13, .int .i64 t12] : List AV)) h_7 ?_
  replace hF := obind_some hF; obtain ⟨h_17, e18, hF⟩ := hF
  refine WL.e h_17 (store_row (P := Try.prog) (h := h_7) (t := 31) (v := (.agg ([.int .i64 0, .str 0 0, .int .i64 0, .int .i64 0] : List AV))) (by kernel_rfl) (by kernel_rfl) e18) ?_
  refine WL.a (some 5) (.int .i64 0) h_17 ?_
  replace hF := obind_some hF; obtain ⟨h_19, e20, hF⟩ := hF
  refine WL.e h_19 (store_row (P := Try.prog) (h := h_17) (t := 27) (v := (.agg ([.int .i64 t13, .int .i64 t12] : List AV))) (by kernel_rfl) (by kernel_rfl) e20) ?_
  refine WL.n ?_
  refine Go.weaken (l' := [(4, (newP h)), (5, .int .i64 0), (6, (newP h_2))]) (Fr.c (Fr.c (Fr.c Fr.n))) ?_
  refine n16 ?_
  refine W.ret (by kernel_rfl) ?_
  refine q13 ?_
  replace hF := obind_some hF; obtain ⟨w4, e21, hF⟩ := hF
  replace hF := obind_some hF; obtain ⟨w6, e22, hF⟩ := hF
  obtain ⟨hF, hF2⟩ := ret_inj hF; subst hF; subst hF2
  exact leave_of (rs := [.cell 4 31, .tmp 5, .cell 6 27]) (vs := [.agg w4, .int .i64 0, .agg w6]) (by kernel_rfl) (res_cell (by kernel_rfl) (load_row (P := Try.prog) (h := h_19) (t := 31) (by kernel_rfl) (by kernel_rfl) e21) (res_tmp (by kernel_rfl) (res_cell (by kernel_rfl) (load_row (P := Try.prog) (h := h_19) (t := 27) (by kernel_rfl) (by kernel_rfl) e22) res_nil))) (by kernel_rfl)
 | false =>
  replace hF := ifB_f hF
  refine W.f ?_
  refine W.skip (by kernel_rfl) ?_
  refine n13 ?_
  refine W.s (fun K23 n23 e23 q23 p23 => ?_)
  refine W.r ?_
  refine WL.a (some 20) (strA t0) h_7 ?_
  refine WL.a (some 21) (.int .i64 t1) h_7 ?_
  refine WL.a (some 22) (.int .i64 t12) h_7 ?_
  replace hF := obind_some hF; obtain ⟨t23, e24, hF⟩ := hF
  refine WL.b (some 23) (strA t23) h_7 (slice_str (P := Try.prog) (h := h_7) (t := 9) (A := (some (.int .i64 t1))) (B := (some (.int .i64 t12))) (by kernel_rfl) (.inl ⟨_, rfl⟩) (.inl ⟨_, rfl⟩) e24) ?_
  refine WL.a (some 24) (.int .i64 t1) h_7 ?_
  refine WL.a (some 25) (.agg ([.int .i64 1, strA t23, .int .i64 0, .int .i64 t1] : List AV)) h_7 ?_
  replace hF := obind_some hF; obtain ⟨h_25, e26, hF⟩ := hF
  refine WL.e h_25 (store_row (P := Try.prog) (h := h_7) (t := 31) (v := (.agg ([.int .i64 1, strA t23, .int .i64 0, .int .i64 t1] : List AV))) (by kernel_rfl) (by kernel_rfl) e26) ?_
  refine WL.n ?_
  refine Go.weaken (l' := [(0, strA t0), (4, (newP h)), (5, .int .i64 t12), (6, (newP h_2))]) (Fr.c (Fr.c (Fr.c (Fr.c Fr.n)))) ?_
  refine n23 ?_
  refine W.s (fun K27 n27 e27 q27 p27 => ?_)
  refine W.s (fun K28 n28 e28 q28 p28 => ?_)
  refine W.r ?_
  refine WL.a (some 26) (.int .i64 t12) h_25 ?_
  refine WL.a (some 27) (strA t0) h_25 ?_
  refine WL.a (some 28) (.int .i64 (lenS t0)) h_25 ?_
  replace hF := lett_some hF; obtain ⟨t29, e29, hF⟩ := hF
  refine WL.val (d := (some 29)) (v := .bool t29) (h' := h_25) (by kernel_rfl) (by kernel_rfl) (val_of AV.bool e29 (by kernel_rfl)) ?_
  refine WL.a (some 30) (.bool t29) h_25 ?_
  replace hF := lett_some hF; obtain ⟨j35, e31, hF⟩ := hF
  have J32 : ∀ (t35 : Bool) (h_30 : AHeap), j35 t35 h_30 = some (rR, hR) → WL Try.prog w0 m0 (Func.ntmps Try.f37) (Code.ops (Code.p1 (Code.p1 (Code.p2 (Code.p2 (Code.p2 (Code.p2 (codeOf Try.f37)))))))) 10 K28 [(4, (newP h)), (5, .int .i64 t12), (6, (newP h_2)), (35, .bool t35)] [] h_30 := by
   intro t35 h_30 hF
   rw [e31] at hF
   refine WL.n ?_
   refine Go.weaken (l' := [(4, (newP h)), (5, .int .i64 t12), (6, (newP h_2)), (35, .bool t35)]) (Fr.c (Fr.c (Fr.c (Fr.c Fr.n)))) ?_
   refine n28 ?_
   replace hF := lett_some hF; obtain ⟨k33, e33, hF⟩ := hF
   have J33 : ∀ (t5 : Int) (h_34 : AHeap), k33 t5 h_34 = some (rR, hR) → Go w0 m0 (Func.ntmps Try.f37) (K27 .normal) [(4, (newP h)), (5, .int .i64 t5), (6, (newP h_2))] [] h_34 := by
    intro t5 h_34 hF
    rw [e33] at hF
    refine n27 ?_
    refine W.s (fun K35 n35 e35 q35 p35 => ?_)
    refine W.r ?_
    replace hF := obind_some hF; obtain ⟨t39, e36, hF⟩ := hF
    refine WL.b (some 39) (.agg t39) h_34 (load_row (P := Try.prog) (h := h_34) (t := 31) (by kernel_rfl) (by kernel_rfl) e36) ?_
    refine WL.a (some 40) (.int .i64 t5) h_34 ?_
    refine WL.a (some 41) (.agg ([.int .i64 0, .int .i64 0] : List AV)) h_34 ?_
    replace hF := obind_some hF; obtain ⟨h_37, e38, hF⟩ := hF
    refine WL.e h_37 (store_row (P := Try.prog) (h := h_34) (t := 31) (v := (.agg t39)) (by kernel_rfl) (by kernel_rfl) e38) ?_
    refine WL.a (some 5) (.int .i64 t5) h_37 ?_
    replace hF := obind_some hF; obtain ⟨h_39, e40, hF⟩ := hF
    refine WL.e h_39 (store_row (P := Try.prog) (h := h_37) (t := 27) (v := (.agg ([.int .i64 0, .int .i64 0] : List AV))) (by kernel_rfl) (by kernel_rfl) e40) ?_
    refine WL.n ?_
    refine Go.weaken (l' := [(4, (newP h)), (5, .int .i64 t5), (6, (newP h_2))]) (Fr.c (Fr.c (Fr.c Fr.n))) ?_
    refine n35 ?_
    refine W.ret (by kernel_rfl) ?_
    replace hF := obind_some hF; obtain ⟨w4_42, e41, hF⟩ := hF
    replace hF := obind_some hF; obtain ⟨w6_44, e43, hF⟩ := hF
    obtain ⟨hF, hF2⟩ := ret_inj hF; subst hF; subst hF2
    exact leave_of (rs := [.cell 4 31, .tmp 5, .cell 6 27]) (vs := [.agg w4_42, .int .i64 t5, .agg w6_44]) (by kernel_rfl) (res_cell (by kernel_rfl) (load_row (P := Try.prog) (h := h_39) (t := 31) (by kernel_rfl) (by kernel_rfl) e41) (res_tmp (by kernel_rfl) (res_cell (by kernel_rfl) (load_row (P := Try.prog) (h := h_39) (t := 27) (by kernel_rfl) (by kernel_rfl) e43) res_nil))) (by kernel_rfl)
   cases t35 with
   | true =>
    replace hF := ifB_t hF
    refine W.t ?_
    refine W.s (fun K45 n45 e45 q45 p45 => ?_)
    refine W.r ?_
    refine WL.a (some 36) (AV.ptr (AHeap.next h) 0) h_30 ?_
    replace hF := obind_some hF; obtain ⟨h_46, e47, hF⟩ := hF
    refine WL.e h_46 (store_row (P := Try.prog) (h := h_30) (t := 3) (v := (.int .i64 2)) (by kernel_rfl) (by kernel_rfl) e47) ?_
    refine WL.n ?_
    refine Go.weaken (l' := [(4, (newP h)), (5, .int .i64 t12), (6, (newP h_2))]) (Fr.c (Fr.c (Fr.c Fr.n))) ?_
    refine n45 ?_
    refine W.r ?_
    refine WL.a (some 37) (.int .i64 t12) h_46 ?_
    replace hF := lett_some hF; obtain ⟨t38, e48, hF⟩ := hF
    refine WL.val (d := (some 38)) (v := .int .i64 t38) (h' := h_46) (by kernel_rfl) (by kernel_rfl) (val_of (AV.int .i64) e48 (by kernel_rfl)) ?_
    refine WL.a (some 5) (.int .i64 t38) h_46 ?_
    refine WL.n ?_
    refine Go.weaken (l' := [(4, (newP h)), (5, .int .i64 t38), (6, (newP h_2))]) (Fr.c (Fr.c (Fr.c Fr.n))) ?_
    exact Go.weaken (Fr.c (Fr.c (Fr.c Fr.n))) (J33 _ _ hF)
   | false =>
    replace hF := ifB_f hF
    refine W.f ?_
    refine W.skip (by kernel_rfl) ?_
    exact Go.weaken (Fr.c (Fr.c (Fr.c Fr.n))) (J33 _ _ hF)
  cases t29 with
  | true =>
   replace hF := ifB_t hF
   refine WL.a (some 31) (strA t0) h_25 ?_
   refine WL.a (some 32) (.int .i64 t12) h_25 ?_
   replace hF := obind_some hF; obtain ⟨t33, e49, hF⟩ := hF
   refine WL.b (some 33) (.int .u8 t33) h_25 (index_str (P := Try.prog) (h := h_25) (t := 9) (k := .i64) (by kernel_rfl) e49) ?_
   replace hF := lett_some hF; obtain ⟨t34, e50, hF⟩ := hF
   refine WL.val (d := (some 34)) (v := .bool t34) (h' := h_25) (by kernel_rfl) (by kernel_rfl) (val_of AV.bool e50 (by kernel_rfl)) ?_
   refine WL.a (some 35) (.bool t34) h_25 ?_
   exact WL.weaken (Fr.c (Fr.c (Fr.c (Fr.c Fr.n)))) (J32 _ _ hF)
  | false =>
   replace hF := ifB_f hF
   refine WL.o (some 31) ?_
   refine WL.o (some 32) ?_
   refine WL.o (some 33) ?_
   refine WL.o (some 34) ?_
   refine WL.a (some 35) (.bool false) h_25 ?_
   exact WL.weaken (Fr.c (Fr.c (Fr.c (Fr.c Fr.n)))) (J32 _ _ hF)
noncomputable def lex_readWord_fn (call : CallF) (n : Nat) : FnT := fun args h => match args with
 | [x0, x1] => obind (avStr x0) fun t0 => obind (avInt .i64 x1) fun t1 => lex_readWord call n t0 t1 h
 | _ => none
set_option maxRecDepth 100000 in
theorem lex_readWord_fn_eq (call : CallF) (n : Nat) (t0 : Bytes) (t1 : Int) (h : AHeap) : lex_readWord_fn call n [strA t0, .int .i64 t1] h = lex_readWord call n t0 t1 h :=
 (Eq.trans (obind_eq (fun t0 => obind (avInt .i64 (.int .i64 t1)) fun t1 => lex_readWord call n t0 t1 h) (avStr_str t0)) (Eq.trans (obind_eq (fun t1 => lex_readWord call n t0 t1 h) (avInt_int .i64 t1)) rfl))
theorem lex_readWord_holds {call : CallF} (hc : SaysAll Try.prog call) (n : Nat) : Holds Try.prog 37 (lex_readWord_fn call n) := by
 intro args h r h2 e
 unfold lex_readWord_fn at e
 split at e
 ·replace e := obind_some e; obtain ⟨t0, c0, e⟩ := e; have c0 := avStr_some c0; subst c0
  replace e := obind_some e; obtain ⟨t1, c1, e⟩ := e; have c1 := avInt_some c1; subst c1
  exact lex_readWord_ok hc e
 ·cases e

noncomputable def lex_wordEnd (call : CallF) (_ : Nat) (t0 : Bytes) (t1 : Int) (h : AHeap) : R :=
 callN (call 27 [strA t0, .int .i64 t1, .int .i64 16, (AV.fn 28 [] [])] h) fun r8 h_3 =>
 obind (extT 0 r8) fun v9 =>
 obind (avInt .i64 v9) fun t9 =>
 obind (extT 1 r8) fun v10 =>
 obind (avInt .i64 v10) fun t10 =>
 some (.ret (.tup [.int .i64 t9, .int .i64 t10]), h_3)
set_option maxHeartbeats 4000000 in
set_option maxRecDepth 20000 in
theorem lex_wordEnd_ok {call : CallF} (hc : SaysAll Try.prog call) {n : Nat} {t0 : Bytes} {t1 : Int} {h : AHeap} {rR : ARes} {hR : AHeap} (hF : lex_wordEnd call n t0 t1 h = some (rR, hR)) : Says Try.prog 17 [strA t0, .int .i64 t1] h rR hR := by
 unfold lex_wordEnd at hF
 refine says_of (fn := Try.f17) Try.func17 (c := codeOf Try.f17) (by kernel_rfl) (by kernel_rfl) (fun w0 m0 => ?_)
 refine W.weaken (l' := [(0, strA t0), (1, .int .i64 t1)]) (Fr.c (Fr.c Fr.n)) ?_
 refine W.s (fun K1 n1 e1 q1 p1 => ?_)
 refine W.r ?_
 refine WL.a (some 4) (.int .i64 0) h ?_
 refine WL.a (some 5) (.int .i64 0) h ?_
 refine WL.n ?_
 refine Go.weaken (l' := [(0, strA t0), (1, .int .i64 t1)]) (Fr.c (Fr.c Fr.n)) ?_
 refine n1 ?_
 refine W.s (fun K2 n2 e2 q2 p2 => ?_)
 refine W.r ?_
 refine WL.a (some 6) (strA t0) h ?_
 refine WL.a (some 7) (.int .i64 t1) h ?_
 replace hF := callN_some hF; obtain ⟨r8, h_3, e4, hF⟩ := hF
 refine WL.c (hc.ok w0) (some 8) e4 ?_
 replace hF := obind_some hF; obtain ⟨v9, e5, hF⟩ := hF
 replace hF := obind_some hF; obtain ⟨t9, c6, hF⟩ := hF
 have c6 := avInt_some c6
 subst c6
 refine WL.b (some 9) (.int .i64 t9) h_3 (extract_tup (h := h_3) e5) ?_
 replace hF := obind_some hF; obtain ⟨v10, e7, hF⟩ := hF
 replace hF := obind_some hF; obtain ⟨t10, c8, hF⟩ := hF
 have c8 := avInt_some c8
 subst c8
 refine WL.b (some 10) (.int .i64 t10) h_3 (extract_tup (h := h_3) e7) ?_
 refine WL.a (some 4) (.int .i64 t9) h_3 ?_
 refine WL.a (some 5) (.int .i64 t10) h_3 ?_
 refine WL.n ?_
 refine Go.weaken (l' := [(4, .int .i64 t9), (5, .int .i64 t10)]) (Fr.c (Fr.c Fr.n)) ?_
 refine n2 ?_
 refine W.ret (by kernel_rfl) ?_
 obtain ⟨hF, hF2⟩ := ret_inj hF; subst hF; subst hF2
 exact leave_of (rs := [.tmp 4, .tmp 5]) (vs := [.int .i64 t9, .int .i64 t10]) (by kernel_rfl) (res_tmp (by kernel_rfl) (res_tmp (by kernel_rfl) res_nil)) (by kernel_rfl)
noncomputable def lex_wordEnd_fn (call : CallF) (n : Nat) : FnT := fun args h => match args with
 | [x0, x1] => obind (avStr x0) fun t0 => obind (avInt .i64 x1) fun t1 => lex_wordEnd call n t0 t1 h
 | _ => none
set_option maxRecDepth 100000 in
theorem lex_wordEnd_fn_eq (call : CallF) (n : Nat) (t0 : Bytes) (t1 : Int) (h : AHeap) : lex_wordEnd_fn call n [strA t0, .int .i64 t1] h = lex_wordEnd call n t0 t1 h :=
 (Eq.trans (obind_eq (fun t0 => obind (avInt .i64 (.int .i64 t1)) fun t1 => lex_wordEnd call n t0 t1 h) (avStr_str t0)) (Eq.trans (obind_eq (fun t1 => lex_wordEnd call n t0 t1 h) (avInt_int .i64 t1)) rfl))
theorem lex_wordEnd_holds {call : CallF} (hc : SaysAll Try.prog call) (n : Nat) : Holds Try.prog 17 (lex_wordEnd_fn call n) := by
 intro args h r h2 e
 unfold lex_wordEnd_fn at e
 split at e
 ·replace e := obind_some e; obtain ⟨t0, c0, e⟩ := e; have c0 := avStr_some c0; subst c0
  replace e := obind_some e; obtain ⟨t1, c1, e⟩ := e; have c1 := avInt_some c1; subst c1
  exact lex_wordEnd_ok hc e
 ·cases e

noncomputable def lex_wordEnd_1 (call : CallF) (_ : Nat) (t0 : Int) (h : AHeap) : R :=
 callN (call 15 [.int .u8 t0] h) fun r4 h_3 =>
 obind (avBool r4) fun t4 =>
 lett (fun (t8 : Bool) (h_6 : AHeap) =>
  lett (fun (t12 : Bool) (h_9 : AHeap) =>
   lett (fun (t16 : Bool) (h_12 : AHeap) =>
    some (.ret (.bool t16), h_12)) fun j16 =>
   ifB t12
   (
    j16 true h_9)
   (
    lett ((t0 : Int) == 45) fun (t15 : Bool) =>
    j16 t15 h_9)) fun j12 =>
  ifB t8
  (
   j12 true h_6)
  (
   lett ((t0 : Int) == 95) fun (t11 : Bool) =>
   j12 t11 h_6)) fun j8 =>
 ifB t4
 (
  j8 true h_3)
 (
  callN (call 29 [.int .u8 t0] h_3) fun r7 h_17 =>
  obind (avBool r7) fun t7 =>
  j8 t7 h_17)
set_option maxHeartbeats 4000000 in
set_option maxRecDepth 20000 in
theorem lex_wordEnd_1_ok {call : CallF} (hc : SaysAll Try.prog call) {n : Nat} {t0 : Int} {h : AHeap} {rR : ARes} {hR : AHeap} (hF : lex_wordEnd_1 call n t0 h = some (rR, hR)) : Says Try.prog 28 [.int .u8 t0] h rR hR := by
 unfold lex_wordEnd_1 at hF
 refine says_of (fn := Try.f28) Try.func28 (c := codeOf Try.f28) (by kernel_rfl) (by kernel_rfl) (fun w0 m0 => ?_)
 refine W.weaken (l' := [(0, .int .u8 t0)]) (Fr.c Fr.n) ?_
 refine W.s (fun K1 n1 e1 q1 p1 => ?_)
 refine W.r ?_
 refine WL.a (some 2) (.bool false) h ?_
 refine WL.n ?_
 refine Go.weaken (l' := [(0, .int .u8 t0)]) (Fr.c Fr.n) ?_
 refine n1 ?_
 refine W.s (fun K2 n2 e2 q2 p2 => ?_)
 refine W.r ?_
 refine WL.a (some 3) (.int .u8 t0) h ?_
 replace hF := callN_some hF; obtain ⟨r4, h_3, e4, hF⟩ := hF
 replace hF := obind_some hF; obtain ⟨t4, c5, hF⟩ := hF
 have c5 := avBool_some c5
 subst c5
 refine WL.c (hc.ok w0) (some 4) e4 ?_
 refine WL.a (some 5) (.bool t4) h_3 ?_
 replace hF := lett_some hF; obtain ⟨j8, e7, hF⟩ := hF
 have J8 : ∀ (t8 : Bool) (h_6 : AHeap), j8 t8 h_6 = some (rR, hR) → WL Try.prog w0 m0 (Func.ntmps Try.f28) (Code.ops (Code.p1 (Code.p2 (codeOf Try.f28)))) 6 K2 [(0, .int .u8 t0), (8, .bool t8)] [] h_6 := by
  intro t8 h_6 hF
  rw [e7] at hF
  refine WL.a (some 9) (.bool t8) h_6 ?_
  replace hF := lett_some hF; obtain ⟨j12, e10, hF⟩ := hF
  have J11 : ∀ (t12 : Bool) (h_9 : AHeap), j12 t12 h_9 = some (rR, hR) → WL Try.prog w0 m0 (Func.ntmps Try.f28) (Code.ops (Code.p1 (Code.p2 (codeOf Try.f28)))) 10 K2 [(0, .int .u8 t0), (12, .bool t12)] [] h_9 := by
   intro t12 h_9 hF
   rw [e10] at hF
   refine WL.a (some 13) (.bool t12) h_9 ?_
   replace hF := lett_some hF; obtain ⟨j16, e13, hF⟩ := hF
   have J14 : ∀ (t16 : Bool) (h_12 : AHeap), j16 t16 h_12 = some (rR, hR) → WL Try.prog w0 m0 (Func.ntmps Try.f28) (Code.ops (Code.p1 (Code.p2 (codeOf Try.f28)))) 14 K2 [(16, .bool t16)] [] h_12 := by
    intro t16 h_12 hF
    rw [e13] at hF
    refine WL.a (some 2) (.bool t16) h_12 ?_
    refine WL.n ?_
    refine Go.weaken (l' := [(2, .bool t16)]) (Fr.c Fr.n) ?_
    refine n2 ?_
    refine W.ret (by kernel_rfl) ?_
    obtain ⟨hF, hF2⟩ := ret_inj hF; subst hF; subst hF2
    exact leave_of (rs := [.tmp 2]) (vs := [.bool t16]) (by kernel_rfl) (res_tmp (by kernel_rfl) res_nil) (by kernel_rfl)
   cases t12 with
   | true =>
    replace hF := ifB_t hF
    refine WL.o (some 14) ?_
    refine WL.o (some 15) ?_
    refine WL.a (some 16) (.bool true) h_9 ?_
    exact WL.weaken (Fr.c Fr.n) (J14 _ _ hF)
   | false =>
    replace hF := ifB_f hF
    refine WL.a (some 14) (.int .u8 t0) h_9 ?_
    replace hF := lett_some hF; obtain ⟨t15, e15, hF⟩ := hF
    refine WL.val (d := (some 15)) (v := .bool t15) (h' := h_9) (by kernel_rfl) (by kernel_rfl) (val_of AV.bool e15 (by kernel_rfl)) ?_
    refine WL.a (some 16) (.bool t15) h_9 ?_
    exact WL.weaken (Fr.c Fr.n) (J14 _ _ hF)
  cases t8 with
  | true =>
   replace hF := ifB_t hF
   refine WL.o (some 10) ?_
   refine WL.o (some 11) ?_
   refine WL.a (some 12) (.bool true) h_6 ?_
   exact WL.weaken (Fr.c (Fr.c Fr.n)) (J11 _ _ hF)
  | false =>
   replace hF := ifB_f hF
   refine WL.a (some 10) (.int .u8 t0) h_6 ?_
   replace hF := lett_some hF; obtain ⟨t11, e16, hF⟩ := hF
   refine WL.val (d := (some 11)) (v := .bool t11) (h' := h_6) (by kernel_rfl) (by kernel_rfl) (val_of AV.bool e16 (by kernel_rfl)) ?_
   refine WL.a (some 12) (.bool t11) h_6 ?_
   exact WL.weaken (Fr.c (Fr.c Fr.n)) (J11 _ _ hF)
 cases t4 with
 | true =>
  replace hF := ifB_t hF
  refine WL.o (some 6) ?_
  refine WL.o (some 7) ?_
  refine WL.a (some 8) (.bool true) h_3 ?_
  exact WL.weaken (Fr.c (Fr.c Fr.n)) (J8 _ _ hF)
 | false =>
  replace hF := ifB_f hF
  refine WL.a (some 6) (.int .u8 t0) h_3 ?_
  replace hF := callN_some hF; obtain ⟨r7, h_17, e18, hF⟩ := hF
  replace hF := obind_some hF; obtain ⟨t7, c19, hF⟩ := hF
  have c19 := avBool_some c19
  subst c19
  refine WL.c (hc.ok w0) (some 7) e18 ?_
  refine WL.a (some 8) (.bool t7) h_17 ?_
  exact WL.weaken (Fr.c (Fr.c Fr.n)) (J8 _ _ hF)
noncomputable def lex_wordEnd_1_fn (call : CallF) (n : Nat) : FnT := fun args h => match args with
 | [x0] => obind (avInt .u8 x0) fun t0 => lex_wordEnd_1 call n t0 h
 | _ => none
set_option maxRecDepth 100000 in
theorem lex_wordEnd_1_fn_eq (call : CallF) (n : Nat) (t0 : Int) (h : AHeap) : lex_wordEnd_1_fn call n [.int .u8 t0] h = lex_wordEnd_1 call n t0 h :=
 (Eq.trans (obind_eq (fun t0 => lex_wordEnd_1 call n t0 h) (avInt_int .u8 t0)) rfl)
theorem lex_wordEnd_1_holds {call : CallF} (hc : SaysAll Try.prog call) (n : Nat) : Holds Try.prog 28 (lex_wordEnd_1_fn call n) := by
 intro args h r h2 e
 unfold lex_wordEnd_1_fn at e
 split at e
 ·replace e := obind_some e; obtain ⟨t0, c0, e⟩ := e; have c0 := avInt_some c0; subst c0
  exact lex_wordEnd_1_ok hc e
 ·cases e

noncomputable def lex_readText (call : CallF) (_ : Nat) (t0 : Bytes) (t1 : Int) (h : AHeap) : R :=
 lett (newH h 31 [.int .i64 0, .str 0 0, .int .i64 0, .int .i64 0]) fun h_2 =>
 lett (newH h_2 27 [.int .i64 0, .int .i64 0]) fun h_4 =>
 obind (sliceS t0 t1 (lenS t0)) fun t12 =>
 callN (call 41 [strA t12, .int .i64 64] h_4) fun r13 h_8 =>
 obind (extT 0 r13) fun v14 =>
 obind (avStr v14) fun t14 =>
 obind (extT 1 r13) fun v15 =>
 obind (avInt .i64 v15) fun t15 =>
 obind (extT 2 r13) fun v16 =>
 obind (avAgg v16) fun t16 =>
 obind (stRow h_8 2 t16 (newP h_2)) fun h_16 =>
 obind (ldCell h_16 (AV.ptr (AHeap.next h_2) 0)) fun v18 =>
 obind (avInt .i64 v18) fun t18 =>
 lett ((t18 : Int) != 0) fun (t19 : Bool) =>
 ifB t19
 (
  obind (ldCell h_16 (AV.ptr (AHeap.next h_2) 0)) fun v22 =>
  obind (avInt .i64 v22) fun t22 =>
  obind (ldCell h_16 (AV.ptr (AHeap.next h_2) 1)) fun v25 =>
  obind (avInt .i64 v25) fun t25 =>
  lett (IntKind.i64.wrap (t1 + t25)) fun (t26 : Int) =>
  obind (stRow h_16 4 ([.int .i64 0, .str 0 0, .int .i64 0, .int .i64 0] : List AV) (newP h)) fun h_29 =>
  chk (reLoad Try.prog h_29 3 (AV.ptr (AHeap.next h_2) 1) (.int .i64 t25) && (reLoad Try.prog h_29 25 (AV.ptr (AHeap.next h_2) 0) (.int .i64 t22) && true)) <|
  obind (stRow h_29 2 ([.int .i64 t22, .int .i64 t26] : List AV) (newP h_2)) fun h_32 =>
  obind (ldRow h_32 4 (newP h)) fun w4 =>
  obind (ldRow h_32 2 (newP h_2)) fun w6 =>
  some (.ret (.tup [.agg w4, .int .i64 0, .agg w6]), h_32))
 (
  lett (IntKind.i64.wrap (t1 + t15)) fun (t33 : Int) =>
  obind (stRow h_16 4 ([.int .i64 4, strA t14, .int .i64 0, .int .i64 t1] : List AV) (newP h)) fun h_38 =>
  obind (stRow h_38 2 ([.int .i64 0, .int .i64 0] : List AV) (newP h_2)) fun h_40 =>
  obind (ldRow h_40 4 (newP h)) fun w4_43 =>
  obind (ldRow h_40 2 (newP h_2)) fun w6_45 =>
  some (.ret (.tup [.agg w4_43, .int .i64 t33, .agg w6_45]), h_40))
set_option maxHeartbeats 4000000 in
set_option maxRecDepth 20000 in
theorem lex_readText_ok {call : CallF} (hc : SaysAll Try.prog call) {n : Nat} {t0 : Bytes} {t1 : Int} {h : AHeap} {rR : ARes} {hR : AHeap} (hF : lex_readText call n t0 t1 h = some (rR, hR)) : Says Try.prog 39 [strA t0, .int .i64 t1] h rR hR := by
 unfold lex_readText at hF
 refine says_of (fn := Try.f39) Try.func39 (c := codeOf Try.f39) (by kernel_rfl) (by kernel_rfl) (fun w0 m0 => ?_)
 refine W.weaken (l' := [(0, strA t0), (1, .int .i64 t1)]) (Fr.c (Fr.c Fr.n)) ?_
 refine W.s (fun K1 n1 e1 q1 p1 => ?_)
 refine W.r ?_
 replace hF := lett_some hF; obtain ⟨h_2, e3, hF⟩ := hF
 refine WL.val (d := (some 4)) (v := (newP h)) (h' := h_2) (by kernel_rfl) (by kernel_rfl) (val_ofH e3 (by kernel_rfl)) ?_
 refine WL.a (some 5) (.int .i64 0) h_2 ?_
 replace hF := lett_some hF; obtain ⟨h_4, e5, hF⟩ := hF
 refine WL.val (d := (some 6)) (v := (newP h_2)) (h' := h_4) (by kernel_rfl) (by kernel_rfl) (val_ofH e5 (by kernel_rfl)) ?_
 refine WL.n ?_
 refine Go.weaken (l' := [(0, strA t0), (1, .int .i64 t1), (4, (newP h)), (6, (newP h_2))]) (Fr.c (Fr.c (Fr.c (Fr.c Fr.n)))) ?_
 refine n1 ?_
 refine W.s (fun K6 n6 e6 q6 p6 => ?_)
 refine W.r ?_
 refine WL.a (some 10) (strA t0) h_4 ?_
 refine WL.a (some 11) (.int .i64 t1) h_4 ?_
 replace hF := obind_some hF; obtain ⟨t12, e7, hF⟩ := hF
 refine WL.b (some 12) (strA t12) h_4 (slice_str (P := Try.prog) (h := h_4) (t := 9) (A := (some (.int .i64 t1))) (B := none) (by kernel_rfl) (.inl ⟨_, rfl⟩) (.inr ⟨rfl, rfl⟩) e7) ?_
 replace hF := callN_some hF; obtain ⟨r13, h_8, e9, hF⟩ := hF
 refine WL.c (hc.ok w0) (some 13) e9 ?_
 refine WL.a (some 9) r13 h_8 ?_
 replace hF := obind_some hF; obtain ⟨v14, e10, hF⟩ := hF
 replace hF := obind_some hF; obtain ⟨t14, c11, hF⟩ := hF
 have c11 := avStr_some c11
 subst c11
 refine WL.b (some 14) (strA t14) h_8 (extract_tup (h := h_8) e10) ?_
 replace hF := obind_some hF; obtain ⟨v15, e12, hF⟩ := hF
 replace hF := obind_some hF; obtain ⟨t15, c13, hF⟩ := hF
 have c13 := avInt_some c13
 subst c13
 refine WL.b (some 15) (.int .i64 t15) h_8 (extract_tup (h := h_8) e12) ?_
 replace hF := obind_some hF; obtain ⟨v16, e14, hF⟩ := hF
 replace hF := obind_some hF; obtain ⟨t16, c15, hF⟩ := hF
 have c15 := avAgg_some c15
 subst c15
 refine WL.b (some 16) (.agg t16) h_8 (extract_tup (h := h_8) e14) ?_
 refine WL.a (some 7) (strA t14) h_8 ?_
 refine WL.a (some 8) (.int .i64 t15) h_8 ?_
 replace hF := obind_some hF; obtain ⟨h_16, e17, hF⟩ := hF
 refine WL.e h_16 (store_row (P := Try.prog) (h := h_8) (t := 27) (v := (.agg t16)) (by kernel_rfl) (by kernel_rfl) e17) ?_
 refine WL.n ?_
 refine Go.weaken (l' := [(1, .int .i64 t1), (4, (newP h)), (6, (newP h_2)), (7, strA t14), (8, .int .i64 t15)]) (Fr.c (Fr.c (Fr.c (Fr.c (Fr.c Fr.n))))) ?_
 refine n6 ?_
 refine W.s (fun K18 n18 e18 q18 p18 => ?_)
 refine W.s (fun K19 n19 e19 q19 p19 => ?_)
 refine W.r ?_
 refine WL.a (some 17) (AV.ptr (AHeap.next h_2) 0) h_16 ?_
 replace hF := obind_some hF; obtain ⟨v18, e20, hF⟩ := hF
 replace hF := obind_some hF; obtain ⟨t18, c21, hF⟩ := hF
 have c21 := avInt_some c21
 subst c21
 refine WL.b (some 18) (.int .i64 t18) h_16 (load_cell (P := Try.prog) (h := h_16) (t := 25) (by kernel_rfl) e20) ?_
 replace hF := lett_some hF; obtain ⟨t19, e22, hF⟩ := hF
 refine WL.val (d := (some 19)) (v := .bool t19) (h' := h_16) (by kernel_rfl) (by kernel_rfl) (val_of AV.bool e22 (by kernel_rfl)) ?_
 refine WL.n ?_
 refine Go.weaken (l' := [(1, .int .i64 t1), (4, (newP h)), (6, (newP h_2)), (7, strA t14), (8, .int .i64 t15), (19, .bool t19)]) (Fr.c (Fr.c (Fr.c (Fr.c (Fr.c (Fr.c Fr.n)))))) ?_
 refine n19 ?_
 cases t19 with
 | true =>
  replace hF := ifB_t hF
  refine W.t ?_
  refine W.s (fun K23 n23 e23 q23 p23 => ?_)
  refine W.draw (by kernel_rfl) (hc.ok w0) (plan := [0, 1, 2, 3, 4, 5, 6, 7, 8, 9, 10]) (by kernel_rfl) (by kernel_rfl) (by kernel_rfl) ?_
  refine WD.a 0 (some 20) (.agg ([.int .i64 0, .str 0 0, .int .i64 0, .int .i64 0] : List AV)) h_16 ?_
  refine WD.a 0 (some 21) (AV.ptr (AHeap.next h_2) 0) h_16 ?_
  replace hF := obind_some hF; obtain ⟨v22, e24, hF⟩ := hF
  replace hF := obind_some hF; obtain ⟨t22, c25, hF⟩ := hF
  have c25 := avInt_some c25
  subst c25
  refine WD.b 1 (some 22) (.int .i64 t22) h_16 (load_cell (P := Try.prog) (h := h_16) (t := 25) (by kernel_rfl) e24) ?_
  refine WD.a 0 (some 23) (.int .i64 t1) h_16 ?_
  refine WD.a 0 (some 24) (AV.ptr (AHeap.next h_2) 1) h_16 ?_
  replace hF := obind_some hF; obtain ⟨v25, e26, hF⟩ := hF
  replace hF := obind_some hF; obtain ⟨t25, c27, hF⟩ := hF
  have c27 := avInt_some c27
  subst c27
  refine WD.b 1 (some 25) (.int .i64 t25) h_16 (load_cell (P := Try.prog) (h := h_16) (t := 3) (by kernel_rfl) e26) ?_
  replace hF := lett_some hF; obtain ⟨t26, e28, hF⟩ := hF
  refine WD.val (d := (some 26)) (v := .int .i64 t26) (h' := h_16) (by kernel_rfl) (by kernel_rfl) (val_of (AV.int .i64) e28 (by kernel_rfl)) (k := 0) (by kernel_rfl) (fun e => absurd e (by decide)) (by decide) ?_
  refine WD.a 0 (some 27) (.agg ([.int .i64 t22, .int .i64 t26] : List AV)) h_16 ?_
  replace hF := obind_some hF; obtain ⟨h_29, e30, hF⟩ := hF
  replace hF := chk_some hF; obtain ⟨k31, hF⟩ := hF
  refine WD.eff (h' := h_29) (by kernel_rfl) (by kernel_rfl) (Eq.trans (by kernel_rfl) (store_row (P := Try.prog) (h := h_16) (t := 31) (v := (.agg ([.int .i64 0, .str 0 0, .int .i64 0, .int .i64 0] : List AV))) (by kernel_rfl) (by kernel_rfl) e30)) (k := 2) (by kernel_rfl) (fun _ => (Eq.trans (by kernel_rfl) k31)) (by decide) ?_
  refine WD.a 0 (some 5) (.int .i64 0) h_29 ?_
  replace hF := obind_some hF; obtain ⟨h_32, e33, hF⟩ := hF
  refine WD.eff (h' := h_32) (by kernel_rfl) (by kernel_rfl) (Eq.trans (by kernel_rfl) (store_row (P := Try.prog) (h := h_29) (t := 27) (v := (.agg ([.int .i64 t22, .int .i64 t26] : List AV))) (by kernel_rfl) (by kernel_rfl) e33)) (k := 2) (by kernel_rfl) (fun _ => (by kernel_rfl)) (by decide) ?_
  refine WD.nil ?_
  refine Go.weaken (l' := [(4, (newP h)), (5, .int .i64 0), (6, (newP h_2))]) (Fr.c (Fr.c (Fr.c Fr.n))) ?_
  refine n23 ?_
  refine W.ret (by kernel_rfl) ?_
  refine q18 ?_
  replace hF := obind_some hF; obtain ⟨w4, e34, hF⟩ := hF
  replace hF := obind_some hF; obtain ⟨w6, e35, hF⟩ := hF
  obtain ⟨hF, hF2⟩ := ret_inj hF; subst hF; subst hF2
  exact leave_of (rs := [.cell 4 31, .tmp 5, .cell 6 27]) (vs := [.agg w4, .int .i64 0, .agg w6]) (by kernel_rfl) (res_cell (by kernel_rfl) (load_row (P := Try.prog) (h := h_32) (t := 31) (by kernel_rfl) (by kernel_rfl) e34) (res_tmp (by kernel_rfl) (res_cell (by kernel_rfl) (load_row (P := Try.prog) (h := h_32) (t := 27) (by kernel_rfl) (by kernel_rfl) e35) res_nil))) (by kernel_rfl)
 | false =>
  replace hF := ifB_f hF
  refine W.f ?_
  refine W.skip (by kernel_rfl) ?_
  refine n18 ?_
  refine W.s (fun K36 n36 e36 q36 p36 => ?_)
  refine W.r ?_
  refine WL.a (some 28) (strA t14) h_16 ?_
  refine WL.a (some 29) (.int .i64 t1) h_16 ?_
  refine WL.a (some 30) (.agg ([.int .i64 4, strA t14, .int .i64 0, .int .i64 t1] : List AV)) h_16 ?_
  refine WL.a (some 31) (.int .i64 t1) h_16 ?_
  refine WL.a (some 32) (.int .i64 t15) h_16 ?_
  replace hF := lett_some hF; obtain ⟨t33, e37, hF⟩ := hF
  refine WL.val (d := (some 33)) (v := .int .i64 t33) (h' := h_16) (by kernel_rfl) (by kernel_rfl) (val_of (AV.int .i64) e37 (by kernel_rfl)) ?_
  refine WL.a (some 34) (.agg ([.int .i64 0, .int .i64 0] : List AV)) h_16 ?_
  replace hF := obind_some hF; obtain ⟨h_38, e39, hF⟩ := hF
  refine WL.e h_38 (store_row (P := Try.prog) (h := h_16) (t := 31) (v := (.agg ([.int .i64 4, strA t14, .int .i64 0, .int .i64 t1] : List AV))) (by kernel_rfl) (by kernel_rfl) e39) ?_
  refine WL.a (some 5) (.int .i64 t33) h_38 ?_
  replace hF := obind_some hF; obtain ⟨h_40, e41, hF⟩ := hF
  refine WL.e h_40 (store_row (P := Try.prog) (h := h_38) (t := 27) (v := (.agg ([.int .i64 0, .int .i64 0] : List AV))) (by kernel_rfl) (by kernel_rfl) e41) ?_
  refine WL.n ?_
  refine Go.weaken (l' := [(4, (newP h)), (5, .int .i64 t33), (6, (newP h_2))]) (Fr.c (Fr.c (Fr.c Fr.n))) ?_
  refine n36 ?_
  refine W.ret (by kernel_rfl) ?_
  replace hF := obind_some hF; obtain ⟨w4_43, e42, hF⟩ := hF
  replace hF := obind_some hF; obtain ⟨w6_45, e44, hF⟩ := hF
  obtain ⟨hF, hF2⟩ := ret_inj hF; subst hF; subst hF2
  exact leave_of (rs := [.cell 4 31, .tmp 5, .cell 6 27]) (vs := [.agg w4_43, .int .i64 t33, .agg w6_45]) (by kernel_rfl) (res_cell (by kernel_rfl) (load_row (P := Try.prog) (h := h_40) (t := 31) (by kernel_rfl) (by kernel_rfl) e42) (res_tmp (by kernel_rfl) (res_cell (by kernel_rfl) (load_row (P := Try.prog) (h := h_40) (t := 27) (by kernel_rfl) (by kernel_rfl) e44) res_nil))) (by kernel_rfl)
noncomputable def lex_readText_fn (call : CallF) (n : Nat) : FnT := fun args h => match args with
 | [x0, x1] => obind (avStr x0) fun t0 => obind (avInt .i64 x1) fun t1 => lex_readText call n t0 t1 h
 | _ => none
set_option maxRecDepth 100000 in
theorem lex_readText_fn_eq (call : CallF) (n : Nat) (t0 : Bytes) (t1 : Int) (h : AHeap) : lex_readText_fn call n [strA t0, .int .i64 t1] h = lex_readText call n t0 t1 h :=
 (Eq.trans (obind_eq (fun t0 => obind (avInt .i64 (.int .i64 t1)) fun t1 => lex_readText call n t0 t1 h) (avStr_str t0)) (Eq.trans (obind_eq (fun t1 => lex_readText call n t0 t1 h) (avInt_int .i64 t1)) rfl))
theorem lex_readText_holds {call : CallF} (hc : SaysAll Try.prog call) (n : Nat) : Holds Try.prog 39 (lex_readText_fn call n) := by
 intro args h r h2 e
 unfold lex_readText_fn at e
 split at e
 ·replace e := obind_some e; obtain ⟨t0, c0, e⟩ := e; have c0 := avStr_some c0; subst c0
  replace e := obind_some e; obtain ⟨t1, c1, e⟩ := e; have c1 := avInt_some c1; subst c1
  exact lex_readText_ok hc e
 ·cases e

noncomputable def lex_readNumber_L0b (h : AHeap) (v36 : AV) (t37 : Int) (k48 : AHeap → R) (self : Int → AHeap → R) (t38 : Int) (h_61 : AHeap) : R :=
 lett (decide (t38 < t37)) fun (t39 : Bool) =>
 ifB t39
 (
  obind (idxP 1 v36 t38) fun t40 =>
  obind (ldCell h_61 t40) fun v41 =>
  obind (avInt .u8 v41) fun t41 =>
  obind (ldCell h_61 (AV.ptr (AHeap.next h) 2)) fun v43 =>
  obind (avInt .i64 v43) fun t43 =>
  lett (IntKind.i64.wrap (10 * t43)) fun (t44 : Int) =>
  lett (IntKind.u8.wrap (t41 - 48)) fun (t46 : Int) =>
  lett (IntKind.i64.wrap t46) fun (t47 : Int) =>
  lett (IntKind.i64.wrap (t44 + t47)) fun (t48 : Int) =>
  obind (stRow h_61 1 [.int .i64 t48] (AV.ptr (AHeap.next h) 2)) fun h_77 =>
  lett (IntKind.i64.wrap (t38 + 1)) fun (t50 : Int) =>
  self t50 h_77)
 (
  k48 h_61)
noncomputable def lex_readNumber_L0 (h : AHeap) (v36 : AV) (t37 : Int) (k48 : AHeap → R) : Nat → Int → AHeap → R := iterR (fun _ _ => none) (lex_readNumber_L0b h v36 t37 k48)
theorem lex_readNumber_L0_s (h : AHeap) (v36 : AV) (t37 : Int) (k48 : AHeap → R) (m : Nat) : lex_readNumber_L0 h v36 t37 k48 (m + 1) = lex_readNumber_L0b h v36 t37 k48 (lex_readNumber_L0 h v36 t37 k48 m) := rfl
noncomputable def lex_readNumber (call : CallF) (n : Nat) (t0 : Bytes) (t1 : Int) (h : AHeap) : R :=
 lett (newH h 31 [.int .i64 0, .str 0 0, .int .i64 0, .int .i64 0]) fun h_2 =>
 lett (newH h_2 27 [.int .i64 0, .int .i64 0]) fun h_4 =>
 obind (stRow h_4 4 ([.int .i64 3, .str 0 0, .int .i64 0, .int .i64 t1] : List AV) (newP h)) fun h_7 =>
 obind (idxS t0 t1) fun t14 =>
 lett ((t14 : Int) == 48) fun (t15 : Bool) =>
 ifB t15
 (
  obind (ldRow h_7 4 (newP h)) fun t16 =>
  lett (IntKind.i64.wrap (t1 + 1)) fun (t18 : Int) =>
  obind (stRow h_7 4 t16 (newP h)) fun h_16 =>
  obind (stRow h_16 2 ([.int .i64 0, .int .i64 0] : List AV) (newP h_2)) fun h_18 =>
  obind (ldRow h_18 4 (newP h)) fun w4 =>
  obind (ldRow h_18 2 (newP h_2)) fun w6 =>
  some (.ret (.tup [.agg w4, .int .i64 t18, .agg w6]), h_18))
 (
  callN (call 27 [strA t0, .int .i64 t1, .int .i64 4, (AV.fn 29 [] [])] h_7) fun r23 h_23 =>
  obind (extT 0 r23) fun v24 =>
  obind (avInt .i64 v24) fun t24 =>
  obind (extT 1 r23) fun v25 =>
  obind (avInt .i64 v25) fun t25 =>
  lett ((t25 : Int) != 0) fun (t27 : Bool) =>
  ifB t27
  (
   obind (stRow h_23 4 ([.int .i64 0, .str 0 0, .int .i64 0, .int .i64 0] : List AV) (newP h)) fun h_33 =>
   obind (stRow h_33 2 ([.int .i64 t25, .int .i64 t24] : List AV) (newP h_2)) fun h_35 =>
   obind (ldRow h_35 4 (newP h)) fun w4_38 =>
   obind (ldRow h_35 2 (newP h_2)) fun w6_40 =>
   some (.ret (.tup [.agg w4_38, .int .i64 0, .agg w6_40]), h_35))
  (
   obind (sliceS t0 t1 t24) fun t35 =>
   outK (opConv Try.prog h_23 9 57 (some (strA t35))) fun v36 h_44 =>
   obind (lenL v36) fun t37 =>
   lett (fun  (h_49 : AHeap) =>
    obind (ldRow h_49 4 (newP h)) fun t51 =>
    obind (stRow h_49 4 t51 (newP h)) fun h_52 =>
    obind (stRow h_52 2 ([.int .i64 0, .int .i64 0] : List AV) (newP h_2)) fun h_54 =>
    obind (ldRow h_54 4 (newP h)) fun w4_57 =>
    obind (ldRow h_54 2 (newP h_2)) fun w6_59 =>
    some (.ret (.tup [.agg w4_57, .int .i64 t24, .agg w6_59]), h_54)) fun k48 =>
   lex_readNumber_L0 h v36 t37 k48 n 0 h_44))
set_option maxHeartbeats 4000000 in
set_option maxRecDepth 20000 in
theorem lex_readNumber_ok {call : CallF} (hc : SaysAll Try.prog call) {n : Nat} {t0 : Bytes} {t1 : Int} {h : AHeap} {rR : ARes} {hR : AHeap} (hF : lex_readNumber call n t0 t1 h = some (rR, hR)) : Says Try.prog 38 [strA t0, .int .i64 t1] h rR hR := by
 unfold lex_readNumber at hF
 refine says_of (fn := Try.f38) Try.func38 (c := codeOf Try.f38) (by kernel_rfl) (by kernel_rfl) (fun w0 m0 => ?_)
 refine W.weaken (l' := [(0, strA t0), (1, .int .i64 t1)]) (Fr.c (Fr.c Fr.n)) ?_
 refine W.s (fun K1 n1 e1 q1 p1 => ?_)
 refine W.r ?_
 replace hF := lett_some hF; obtain ⟨h_2, e3, hF⟩ := hF
 refine WL.val (d := (some 4)) (v := (newP h)) (h' := h_2) (by kernel_rfl) (by kernel_rfl) (val_ofH e3 (by kernel_rfl)) ?_
 refine WL.a (some 5) (.int .i64 0) h_2 ?_
 replace hF := lett_some hF; obtain ⟨h_4, e5, hF⟩ := hF
 refine WL.val (d := (some 6)) (v := (newP h_2)) (h' := h_4) (by kernel_rfl) (by kernel_rfl) (val_ofH e5 (by kernel_rfl)) ?_
 refine WL.n ?_
 refine Go.weaken (l' := [(0, strA t0), (1, .int .i64 t1), (4, (newP h)), (6, (newP h_2))]) (Fr.c (Fr.c (Fr.c (Fr.c Fr.n)))) ?_
 refine n1 ?_
 refine W.s (fun K6 n6 e6 q6 p6 => ?_)
 refine W.r ?_
 refine WL.a (some 10) (.int .i64 t1) h_4 ?_
 refine WL.a (some 11) (.agg ([.int .i64 3, .str 0 0, .int .i64 0, .int .i64 t1] : List AV)) h_4 ?_
 replace hF := obind_some hF; obtain ⟨h_7, e8, hF⟩ := hF
 refine WL.e h_7 (store_row (P := Try.prog) (h := h_4) (t := 31) (v := (.agg ([.int .i64 3, .str 0 0, .int .i64 0, .int .i64 t1] : List AV))) (by kernel_rfl) (by kernel_rfl) e8) ?_
 refine WL.n ?_
 refine Go.weaken (l' := [(0, strA t0), (1, .int .i64 t1), (4, (newP h)), (6, (newP h_2))]) (Fr.c (Fr.c (Fr.c (Fr.c Fr.n)))) ?_
 refine n6 ?_
 refine W.s (fun K9 n9 e9 q9 p9 => ?_)
 refine W.s (fun K10 n10 e10 q10 p10 => ?_)
 refine W.r ?_
 refine WL.a (some 12) (strA t0) h_7 ?_
 refine WL.a (some 13) (.int .i64 t1) h_7 ?_
 replace hF := obind_some hF; obtain ⟨t14, e11, hF⟩ := hF
 refine WL.b (some 14) (.int .u8 t14) h_7 (index_str (P := Try.prog) (h := h_7) (t := 9) (k := .i64) (by kernel_rfl) e11) ?_
 replace hF := lett_some hF; obtain ⟨t15, e12, hF⟩ := hF
 refine WL.val (d := (some 15)) (v := .bool t15) (h' := h_7) (by kernel_rfl) (by kernel_rfl) (val_of AV.bool e12 (by kernel_rfl)) ?_
 refine WL.n ?_
 refine Go.weaken (l' := [(0, strA t0), (1, .int .i64 t1), (4, (newP h)), (6, (newP h_2)), (15, .bool t15)]) (Fr.c (Fr.c (Fr.c (Fr.c (Fr.c Fr.n))))) ?_
 refine n10 ?_
 cases t15 with
 | true =>
  replace hF := ifB_t hF
  refine W.t ?_
  refine W.s (fun K13 n13 e13 q13 p13 => ?_)
  refine W.r ?_
  replace hF := obind_some hF; obtain ⟨t16, e14, hF⟩ := hF
  refine WL.b (some 16) (.agg t16) h_7 (load_row (P := Try.prog) (h := h_7) (t := 31) (by kernel_rfl) (by kernel_rfl) e14) ?_
  refine WL.a (some 17) (.int .i64 t1) h_7 ?_
  replace hF := lett_some hF; obtain ⟨t18, e15, hF⟩ := hF
  refine WL.val (d := (some 18)) (v := .int .i64 t18) (h' := h_7) (by kernel_rfl) (by kernel_rfl) (val_of (AV.int .i64) e15 (by kernel_rfl)) ?_
  refine WL.a (some 19) (.agg ([.int .i64 0, .int .i64 0] : List AV)) h_7 ?_
  replace hF := obind_some hF; obtain ⟨h_16, e17, hF⟩ := hF
  refine WL.e h_16 (store_row (P := Try.prog) (h := h_7) (t := 31) (v := (.agg t16)) (by kernel_rfl) (by kernel_rfl) e17) ?_
  refine WL.a (some 5) (.int .i64 t18) h_16 ?_
  replace hF := obind_some hF; obtain ⟨h_18, e19, hF⟩ := hF
  refine WL.e h_18 (store_row (P := Try.prog) (h := h_16) (t := 27) (v := (.agg ([.int .i64 0, .int .i64 0] : List AV))) (by kernel_rfl) (by kernel_rfl) e19) ?_
  refine WL.n ?_
  refine Go.weaken (l' := [(4, (newP h)), (5, .int .i64 t18), (6, (newP h_2))]) (Fr.c (Fr.c (Fr.c Fr.n))) ?_
  refine n13 ?_
  refine W.ret (by kernel_rfl) ?_
  refine q9 ?_
  replace hF := obind_some hF; obtain ⟨w4, e20, hF⟩ := hF
  replace hF := obind_some hF; obtain ⟨w6, e21, hF⟩ := hF
  obtain ⟨hF, hF2⟩ := ret_inj hF; subst hF; subst hF2
  exact leave_of (rs := [.cell 4 31, .tmp 5, .cell 6 27]) (vs := [.agg w4, .int .i64 t18, .agg w6]) (by kernel_rfl) (res_cell (by kernel_rfl) (load_row (P := Try.prog) (h := h_18) (t := 31) (by kernel_rfl) (by kernel_rfl) e20) (res_tmp (by kernel_rfl) (res_cell (by kernel_rfl) (load_row (P := Try.prog) (h := h_18) (t := 27) (by kernel_rfl) (by kernel_rfl) e21) res_nil))) (by kernel_rfl)
 | false =>
  replace hF := ifB_f hF
  refine W.f ?_
  refine W.skip (by kernel_rfl) ?_
  refine n9 ?_
  refine W.s (fun K22 n22 e22 q22 p22 => ?_)
  refine W.r ?_
  refine WL.a (some 21) (strA t0) h_7 ?_
  refine WL.a (some 22) (.int .i64 t1) h_7 ?_
  replace hF := callN_some hF; obtain ⟨r23, h_23, e24, hF⟩ := hF
  refine WL.c (hc.ok w0) (some 23) e24 ?_
  refine WL.a (some 20) r23 h_23 ?_
  replace hF := obind_some hF; obtain ⟨v24, e25, hF⟩ := hF
  replace hF := obind_some hF; obtain ⟨t24, c26, hF⟩ := hF
  have c26 := avInt_some c26
  subst c26
  refine WL.b (some 24) (.int .i64 t24) h_23 (extract_tup (h := h_23) e25) ?_
  replace hF := obind_some hF; obtain ⟨v25, e27, hF⟩ := hF
  replace hF := obind_some hF; obtain ⟨t25, c28, hF⟩ := hF
  have c28 := avInt_some c28
  subst c28
  refine WL.b (some 25) (.int .i64 t25) h_23 (extract_tup (h := h_23) e27) ?_
  refine WL.a (some 5) (.int .i64 t24) h_23 ?_
  refine WL.a (some 7) (.int .i64 t25) h_23 ?_
  refine WL.n ?_
  refine Go.weaken (l' := [(0, strA t0), (1, .int .i64 t1), (4, (newP h)), (5, .int .i64 t24), (6, (newP h_2)), (7, .int .i64 t25)]) (Fr.c (Fr.c (Fr.c (Fr.c (Fr.c (Fr.c Fr.n)))))) ?_
  refine n22 ?_
  refine W.s (fun K29 n29 e29 q29 p29 => ?_)
  refine W.s (fun K30 n30 e30 q30 p30 => ?_)
  refine W.r ?_
  refine WL.a (some 26) (.int .i64 t25) h_23 ?_
  replace hF := lett_some hF; obtain ⟨t27, e31, hF⟩ := hF
  refine WL.val (d := (some 27)) (v := .bool t27) (h' := h_23) (by kernel_rfl) (by kernel_rfl) (val_of AV.bool e31 (by kernel_rfl)) ?_
  refine WL.n ?_
  refine Go.weaken (l' := [(0, strA t0), (1, .int .i64 t1), (4, (newP h)), (5, .int .i64 t24), (6, (newP h_2)), (7, .int .i64 t25), (27, .bool t27)]) (Fr.c (Fr.c (Fr.c (Fr.c (Fr.c (Fr.c (Fr.c Fr.n))))))) ?_
  refine n30 ?_
  cases t27 with
  | true =>
   replace hF := ifB_t hF
   refine W.t ?_
   refine W.s (fun K32 n32 e32 q32 p32 => ?_)
   refine W.r ?_
   refine WL.a (some 28) (.agg ([.int .i64 0, .str 0 0, .int .i64 0, .int .i64 0] : List AV)) h_23 ?_
   refine WL.a (some 29) (.int .i64 t25) h_23 ?_
   refine WL.a (some 30) (.int .i64 t24) h_23 ?_
   refine WL.a (some 31) (.agg ([.int .i64 t25, .int .i64 t24] : List AV)) h_23 ?_
   replace hF := obind_some hF; obtain ⟨h_33, e34, hF⟩ := hF
   refine WL.e h_33 (store_row (P := Try.prog) (h := h_23) (t := 31) (v := (.agg ([.int .i64 0, .str 0 0, .int .i64 0, .int .i64 0] : List AV))) (by kernel_rfl) (by kernel_rfl) e34) ?_
   refine WL.a (some 5) (.int .i64 0) h_33 ?_
   replace hF := obind_some hF; obtain ⟨h_35, e36, hF⟩ := hF
   refine WL.e h_35 (store_row (P := Try.prog) (h := h_33) (t := 27) (v := (.agg ([.int .i64 t25, .int .i64 t24] : List AV))) (by kernel_rfl) (by kernel_rfl) e36) ?_
   refine WL.n ?_
   refine Go.weaken (l' := [(4, (newP h)), (5, .int .i64 0), (6, (newP h_2))]) (Fr.c (Fr.c (Fr.c Fr.n))) ?_
   refine n32 ?_
   refine W.ret (by kernel_rfl) ?_
   refine q29 ?_
   replace hF := obind_some hF; obtain ⟨w4_38, e37, hF⟩ := hF
   replace hF := obind_some hF; obtain ⟨w6_40, e39, hF⟩ := hF
   obtain ⟨hF, hF2⟩ := ret_inj hF; subst hF; subst hF2
   exact leave_of (rs := [.cell 4 31, .tmp 5, .cell 6 27]) (vs := [.agg w4_38, .int .i64 0, .agg w6_40]) (by kernel_rfl) (res_cell (by kernel_rfl) (load_row (P := Try.prog) (h := h_35) (t := 31) (by kernel_rfl) (by kernel_rfl) e37) (res_tmp (by kernel_rfl) (res_cell (by kernel_rfl) (load_row (P := Try.prog) (h := h_35) (t := 27) (by kernel_rfl) (by kernel_rfl) e39) res_nil))) (by kernel_rfl)
  | false =>
   replace hF := ifB_f hF
   refine W.f ?_
   refine W.skip (by kernel_rfl) ?_
   refine n29 ?_
   refine W.s (fun K41 n41 e41 q41 p41 => ?_)
   refine W.s (fun K42 n42 e42 q42 p42 => ?_)
   refine W.r ?_
   refine WL.a (some 32) (strA t0) h_23 ?_
   refine WL.a (some 33) (.int .i64 t1) h_23 ?_
   refine WL.a (some 34) (.int .i64 t24) h_23 ?_
   replace hF := obind_some hF; obtain ⟨t35, e43, hF⟩ := hF
   refine WL.b (some 35) (strA t35) h_23 (slice_str (P := Try.prog) (h := h_23) (t := 9) (A := (some (.int .i64 t1))) (B := (some (.int .i64 t24))) (by kernel_rfl) (.inl ⟨_, rfl⟩) (.inl ⟨_, rfl⟩) e43) ?_
   replace hF := outK_some hF; obtain ⟨v36, h_44, e45, hF⟩ := hF
   refine WL.b (some 36) v36 h_44 e45 ?_
   replace hF := obind_some hF; obtain ⟨t37, e46, hF⟩ := hF
   refine WL.b (some 37) (.int .i64 t37) h_44 (len_row (P := Try.prog) (h := h_44) (t := 57) (e' := 5) (by kernel_rfl) e46) ?_
   refine WL.a (some 38) (.int .i64 0) h_44 ?_
   refine WL.n ?_
   refine Go.weaken (l' := [(4, (newP h)), (5, .int .i64 t24), (6, (newP h_2)), (36, v36), (37, .int .i64 t37), (38, .int .i64 0)]) (Fr.c (Fr.c (Fr.c (Fr.c (Fr.c (Fr.c Fr.n)))))) ?_
   refine n42 ?_
   replace hF := lett_some hF; obtain ⟨k48, e48, hF⟩ := hF
   have J48 : ∀  (h_49 : AHeap), k48 h_49 = some (rR, hR) → Go w0 m0 (Func.ntmps Try.f38) (K41 .normal) [(4, (newP h)), (5, .int .i64 t24), (6, (newP h_2))] [] h_49 := by
    intro  h_49 hF
    rw [e48] at hF
    refine n41 ?_
    refine W.s (fun K50 n50 e50 q50 p50 => ?_)
    refine W.r ?_
    replace hF := obind_some hF; obtain ⟨t51, e51, hF⟩ := hF
    refine WL.b (some 51) (.agg t51) h_49 (load_row (P := Try.prog) (h := h_49) (t := 31) (by kernel_rfl) (by kernel_rfl) e51) ?_
    refine WL.a (some 52) (.int .i64 t24) h_49 ?_
    refine WL.a (some 53) (.agg ([.int .i64 0, .int .i64 0] : List AV)) h_49 ?_
    replace hF := obind_some hF; obtain ⟨h_52, e53, hF⟩ := hF
    refine WL.e h_52 (store_row (P := Try.prog) (h := h_49) (t := 31) (v := (.agg t51)) (by kernel_rfl) (by kernel_rfl) e53) ?_
    refine WL.a (some 5) (.int .i64 t24) h_52 ?_
    replace hF := obind_some hF; obtain ⟨h_54, e55, hF⟩ := hF
    refine WL.e h_54 (store_row (P := Try.prog) (h := h_52) (t := 27) (v := (.agg ([.int .i64 0, .int .i64 0] : List AV))) (by kernel_rfl) (by kernel_rfl) e55) ?_
    refine WL.n ?_
    refine Go.weaken (l' := [(4, (newP h)), (5, .int .i64 t24), (6, (newP h_2))]) (Fr.c (Fr.c (Fr.c Fr.n))) ?_
    refine n50 ?_
    refine W.ret (by kernel_rfl) ?_
    replace hF := obind_some hF; obtain ⟨w4_57, e56, hF⟩ := hF
    replace hF := obind_some hF; obtain ⟨w6_59, e58, hF⟩ := hF
    obtain ⟨hF, hF2⟩ := ret_inj hF; subst hF; subst hF2
    exact leave_of (rs := [.cell 4 31, .tmp 5, .cell 6 27]) (vs := [.agg w4_57, .int .i64 t24, .agg w6_59]) (by kernel_rfl) (res_cell (by kernel_rfl) (load_row (P := Try.prog) (h := h_54) (t := 31) (by kernel_rfl) (by kernel_rfl) e56) (res_tmp (by kernel_rfl) (res_cell (by kernel_rfl) (load_row (P := Try.prog) (h := h_54) (t := 27) (by kernel_rfl) (by kernel_rfl) e58) res_nil))) (by kernel_rfl)
   refine W.blockK (by kernel_rfl) (fun K47 n47 s47 o47 q47 p47 => ?_)
   refine W.loopK (by kernel_rfl) (fun I60 K60 b60 n60 e60 q60 p60 => ?_)
   have L60 : ∀ (m : Nat) (t38 : Int) (h_61 : AHeap), lex_readNumber_L0 h v36 t37 k48 m t38 h_61 = some (rR, hR) → Go w0 m0 (Func.ntmps Try.f38) I60 [(4, (newP h)), (5, .int .i64 t24), (6, (newP h_2)), (36, v36), (37, .int .i64 t37), (38, .int .i64 t38)] [] h_61 := by
    intro m
    induction m with
    | zero => intro t38 h_61 hF; cases hF
    | succ m ih60 =>
     intro t38 h_61 hF
     rw [lex_readNumber_L0_s] at hF; unfold lex_readNumber_L0b at hF
     refine b60 ?_
     refine W.s (fun K62 n62 e62 q62 p62 => ?_)
     refine W.r ?_
     replace hF := lett_some hF; obtain ⟨t39, e63, hF⟩ := hF
     refine WL.val (d := (some 39)) (v := .bool t39) (h' := h_61) (by kernel_rfl) (by kernel_rfl) (val_of AV.bool e63 (by kernel_rfl)) ?_
     refine WL.n ?_
     refine Go.weaken (l' := [(4, (newP h)), (5, .int .i64 t24), (6, (newP h_2)), (36, v36), (37, .int .i64 t37), (38, .int .i64 t38), (39, .bool t39)]) (Fr.c (Fr.c (Fr.c (Fr.c (Fr.c (Fr.c (Fr.c Fr.n))))))) ?_
     refine n62 ?_
     refine W.s (fun K64 n64 e64 q64 p64 => ?_)
     cases t39 with
     | true =>
      replace hF := ifB_t hF
      refine W.t ?_
      refine W.skip (by kernel_rfl) ?_
      refine n64 ?_
      refine W.s (fun K65 n65 e65 q65 p65 => ?_)
      refine W.blockK (by kernel_rfl) (fun K66 n66 s66 o66 q66 p66 => ?_)
      refine W.s (fun K67 n67 e67 q67 p67 => ?_)
      refine W.r ?_
      replace hF := obind_some hF; obtain ⟨t40, e68, hF⟩ := hF
      refine WL.b (some 40) t40 h_61 (index_row (P := Try.prog) (h := h_61) (t := 57) (e' := 5) (k := .i64) (by kernel_rfl) (by kernel_rfl) (by kernel_rfl) e68) ?_
      replace hF := obind_some hF; obtain ⟨v41, e69, hF⟩ := hF
      replace hF := obind_some hF; obtain ⟨t41, c70, hF⟩ := hF
      have c70 := avInt_some c70
      subst c70
      refine WL.b (some 41) (.int .u8 t41) h_61 (load_cell (P := Try.prog) (h := h_61) (t := 5) (by kernel_rfl) e69) ?_
      refine WL.a (some 9) (.int .u8 t41) h_61 ?_
      refine WL.n ?_
      refine Go.weaken (l' := [(4, (newP h)), (5, .int .i64 t24), (6, (newP h_2)), (9, .int .u8 t41), (36, v36), (37, .int .i64 t37), (38, .int .i64 t38)]) (Fr.c (Fr.c (Fr.c (Fr.c (Fr.c (Fr.c (Fr.c Fr.n))))))) ?_
      refine n67 ?_
      refine W.r ?_
      refine WL.a (some 42) (AV.ptr (AHeap.next h) 2) h_61 ?_
      replace hF := obind_some hF; obtain ⟨v43, e71, hF⟩ := hF
      replace hF := obind_some hF; obtain ⟨t43, c72, hF⟩ := hF
      have c72 := avInt_some c72
      subst c72
      refine WL.b (some 43) (.int .i64 t43) h_61 (load_cell (P := Try.prog) (h := h_61) (t := 3) (by kernel_rfl) e71) ?_
      replace hF := lett_some hF; obtain ⟨t44, e73, hF⟩ := hF
      refine WL.val (d := (some 44)) (v := .int .i64 t44) (h' := h_61) (by kernel_rfl) (by kernel_rfl) (val_of (AV.int .i64) e73 (by kernel_rfl)) ?_
      refine WL.a (some 45) (.int .u8 t41) h_61 ?_
      replace hF := lett_some hF; obtain ⟨t46, e74, hF⟩ := hF
      refine WL.val (d := (some 46)) (v := .int .u8 t46) (h' := h_61) (by kernel_rfl) (by kernel_rfl) (val_of (AV.int .u8) e74 (by kernel_rfl)) ?_
      replace hF := lett_some hF; obtain ⟨t47, e75, hF⟩ := hF
      refine WL.val (d := (some 47)) (v := .int .i64 t47) (h' := h_61) (by kernel_rfl) (by kernel_rfl) (val_of (AV.int .i64) e75 (by kernel_rfl)) ?_
      replace hF := lett_some hF; obtain ⟨t48, e76, hF⟩ := hF
      refine WL.val (d := (some 48)) (v := .int .i64 t48) (h' := h_61) (by kernel_rfl) (by kernel_rfl) (val_of (AV.int .i64) e76 (by kernel_rfl)) ?_
      refine WL.a (some 49) (AV.ptr (AHeap.next h) 2) h_61 ?_
      replace hF := obind_some hF; obtain ⟨h_77, e78, hF⟩ := hF
      refine WL.e h_77 (store_row (P := Try.prog) (h := h_61) (t := 3) (v := (.int .i64 t48)) (by kernel_rfl) (by kernel_rfl) e78) ?_
      refine WL.n ?_
      refine Go.weaken (l' := [(4, (newP h)), (5, .int .i64 t24), (6, (newP h_2)), (36, v36), (37, .int .i64 t37), (38, .int .i64 t38)]) (Fr.c (Fr.c (Fr.c (Fr.c (Fr.c (Fr.c Fr.n)))))) ?_
      refine n66 ?_
      refine n65 ?_
      refine W.r ?_
      replace hF := lett_some hF; obtain ⟨t50, e79, hF⟩ := hF
      refine WL.val (d := (some 50)) (v := .int .i64 t50) (h' := h_77) (by kernel_rfl) (by kernel_rfl) (val_of (AV.int .i64) e79 (by kernel_rfl)) ?_
      refine WL.a (some 38) (.int .i64 t50) h_77 ?_
      refine WL.n ?_
      refine Go.weaken (l' := [(4, (newP h)), (5, .int .i64 t24), (6, (newP h_2)), (36, v36), (37, .int .i64 t37), (38, .int .i64 t50)]) (Fr.c (Fr.c (Fr.c (Fr.c (Fr.c (Fr.c Fr.n)))))) ?_
      refine n60 ?_
      exact Go.weaken (Fr.c (Fr.c (Fr.c (Fr.c (Fr.c (Fr.c Fr.n)))))) (ih60 _ _ hF)
     | false =>
      replace hF := ifB_f hF
      refine W.f ?_
      refine W.exit (by kernel_rfl) ?_
      refine e64 ?_
      refine e60 ?_
      refine s47 (by kernel_rfl) ?_
      exact Go.weaken (Fr.c (Fr.c (Fr.c Fr.n))) (J48 _ hF)
   exact Go.weaken (Fr.c (Fr.c (Fr.c (Fr.c (Fr.c (Fr.c Fr.n)))))) (L60 _ _ _ hF)
noncomputable def lex_readNumber_fn (call : CallF) (n : Nat) : FnT := fun args h => match args with
 | [x0, x1] => obind (avStr x0) fun t0 => obind (avInt .i64 x1) fun t1 => lex_readNumber call n t0 t1 h
 | _ => none
set_option maxRecDepth 100000 in
theorem lex_readNumber_fn_eq (call : CallF) (n : Nat) (t0 : Bytes) (t1 : Int) (h : AHeap) : lex_readNumber_fn call n [strA t0, .int .i64 t1] h = lex_readNumber call n t0 t1 h :=
 (Eq.trans (obind_eq (fun t0 => obind (avInt .i64 (.int .i64 t1)) fun t1 => lex_readNumber call n t0 t1 h) (avStr_str t0)) (Eq.trans (obind_eq (fun t1 => lex_readNumber call n t0 t1 h) (avInt_int .i64 t1)) rfl))
theorem lex_readNumber_holds {call : CallF} (hc : SaysAll Try.prog call) (n : Nat) : Holds Try.prog 38 (lex_readNumber_fn call n) := by
 intro args h r h2 e
 unfold lex_readNumber_fn at e
 split at e
 ·replace e := obind_some e; obtain ⟨t0, c0, e⟩ := e; have c0 := avStr_some c0; subst c0
  replace e := obind_some e; obtain ⟨t1, c1, e⟩ := e; have c1 := avInt_some c1; subst c1
  exact lex_readNumber_ok hc e
 ·cases e

noncomputable def lex_run_L0b (call : CallF) (t0 : Bytes) (t1 : Int) (t2 : Int) (t3 : AV) (k5 : Int → AHeap → R) (self : Int → AHeap → R) (t8_9 : Int) (h_10 : AHeap) : R :=
 lett (decide (t8_9 < (lenS t0))) fun (t14 : Bool) =>
 lett (fun (t21 : Bool) (h_14 : AHeap) =>
  ifB t21
  (
   lett (IntKind.i64.wrap (t8_9 - t1)) fun (t24 : Int) =>
   lett ((t24 : Int) == t2) fun (t26 : Bool) =>
   ifB t26
   (
    some (.ret (.tup [.int .i64 t8_9, .int .i64 3]), h_14))
   (
    lett (IntKind.i64.wrap (t8_9 + 1)) fun (t29 : Int) =>
    self t29 h_14))
  (
   k5 t8_9 h_14)) fun j21 =>
 ifB t14
 (
  obind (idxS t0 t8_9) fun t19 =>
  callN (dynC Try.prog call t3 [.int .u8 t19] h_10) fun r20 h_25 =>
  obind (avBool r20) fun t20 =>
  j21 t20 h_25)
 (
  j21 false h_10)
noncomputable def lex_run_L0 (call : CallF) (t0 : Bytes) (t1 : Int) (t2 : Int) (t3 : AV) (k5 : Int → AHeap → R) : Nat → Int → AHeap → R := iterR (fun _ _ => none) (lex_run_L0b call t0 t1 t2 t3 k5)
theorem lex_run_L0_s (call : CallF) (t0 : Bytes) (t1 : Int) (t2 : Int) (t3 : AV) (k5 : Int → AHeap → R) (m : Nat) : lex_run_L0 call t0 t1 t2 t3 k5 (m + 1) = lex_run_L0b call t0 t1 t2 t3 k5 (lex_run_L0 call t0 t1 t2 t3 k5 m) := rfl
noncomputable def lex_run (call : CallF) (n : Nat) (t0 : Bytes) (t1 : Int) (t2 : Int) (t3 : AV) (h : AHeap) : R :=
 lett (fun (t8 : Int) (h_6 : AHeap) =>
  some (.ret (.tup [.int .i64 t8, .int .i64 0]), h_6)) fun k5 =>
 lex_run_L0 call t0 t1 t2 t3 k5 n t1 h
set_option maxHeartbeats 4000000 in
set_option maxRecDepth 20000 in
theorem lex_run_ok {call : CallF} (hc : SaysAll Try.prog call) {n : Nat} {t0 : Bytes} {t1 : Int} {t2 : Int} {t3 : AV} {h : AHeap} {rR : ARes} {hR : AHeap} (hF : lex_run call n t0 t1 t2 t3 h = some (rR, hR)) : Says Try.prog 27 [strA t0, .int .i64 t1, .int .i64 t2, t3] h rR hR := by
 unfold lex_run at hF
 refine says_of (fn := Try.f27) Try.func27 (c := codeOf Try.f27) (by kernel_rfl) (by kernel_rfl) (fun w0 m0 => ?_)
 refine W.weaken (l' := [(0, strA t0), (1, .int .i64 t1), (2, .int .i64 t2), (3, t3)]) (Fr.c (Fr.c (Fr.c (Fr.c Fr.n)))) ?_
 refine W.s (fun K1 n1 e1 q1 p1 => ?_)
 refine W.r ?_
 refine WL.a (some 8) (.int .i64 0) h ?_
 refine WL.a (some 9) (.int .i64 0) h ?_
 refine WL.n ?_
 refine Go.weaken (l' := [(0, strA t0), (1, .int .i64 t1), (2, .int .i64 t2), (3, t3)]) (Fr.c (Fr.c (Fr.c (Fr.c Fr.n)))) ?_
 refine n1 ?_
 refine W.s (fun K2 n2 e2 q2 p2 => ?_)
 refine W.r ?_
 refine WL.a (some 10) (.int .i64 t1) h ?_
 refine WL.a (some 8) (.int .i64 t1) h ?_
 refine WL.n ?_
 refine Go.weaken (l' := [(0, strA t0), (1, .int .i64 t1), (2, .int .i64 t2), (3, t3), (8, .int .i64 t1)]) (Fr.c (Fr.c (Fr.c (Fr.c (Fr.c Fr.n))))) ?_
 refine n2 ?_
 refine W.s (fun K3 n3 e3 q3 p3 => ?_)
 replace hF := lett_some hF; obtain ⟨k5, e5, hF⟩ := hF
 have J5 : ∀ (t8 : Int) (h_6 : AHeap), k5 t8 h_6 = some (rR, hR) → Go w0 m0 (Func.ntmps Try.f27) (K3 .normal) [(8, .int .i64 t8)] [] h_6 := by
  intro t8 h_6 hF
  rw [e5] at hF
  refine n3 ?_
  refine W.s (fun K7 n7 e7 q7 p7 => ?_)
  refine W.r ?_
  refine WL.a (some 30) (.int .i64 t8) h_6 ?_
  refine WL.a (some 8) (.int .i64 t8) h_6 ?_
  refine WL.a (some 9) (.int .i64 0) h_6 ?_
  refine WL.n ?_
  refine Go.weaken (l' := [(8, .int .i64 t8), (9, .int .i64 0)]) (Fr.c (Fr.c Fr.n)) ?_
  refine n7 ?_
  refine W.ret (by kernel_rfl) ?_
  obtain ⟨hF, hF2⟩ := ret_inj hF; subst hF; subst hF2
  exact leave_of (rs := [.tmp 8, .tmp 9]) (vs := [.int .i64 t8, .int .i64 0]) (by kernel_rfl) (res_tmp (by kernel_rfl) (res_tmp (by kernel_rfl) res_nil)) (by kernel_rfl)
 refine W.blockK (by kernel_rfl) (fun K4 n4 s4 o4 q4 p4 => ?_)
 refine W.loopK (by kernel_rfl) (fun I8 K8 b8 n8 e8 q8 p8 => ?_)
 have L8 : ∀ (m : Nat) (t8_9 : Int) (h_10 : AHeap), lex_run_L0 call t0 t1 t2 t3 k5 m t8_9 h_10 = some (rR, hR) → Go w0 m0 (Func.ntmps Try.f27) I8 [(0, strA t0), (1, .int .i64 t1), (2, .int .i64 t2), (3, t3), (8, .int .i64 t8_9)] [] h_10 := by
  intro m
  induction m with
  | zero => intro t8_9 h_10 hF; cases hF
  | succ m ih8 =>
   intro t8_9 h_10 hF
   rw [lex_run_L0_s] at hF; unfold lex_run_L0b at hF
   refine b8 ?_
   refine W.s (fun K11 n11 e11 q11 p11 => ?_)
   refine W.s (fun K12 n12 e12 q12 p12 => ?_)
   refine W.r ?_
   refine WL.a (some 11) (.int .i64 t8_9) h_10 ?_
   refine WL.a (some 12) (strA t0) h_10 ?_
   refine WL.a (some 13) (.int .i64 (lenS t0)) h_10 ?_
   replace hF := lett_some hF; obtain ⟨t14, e13, hF⟩ := hF
   refine WL.val (d := (some 14)) (v := .bool t14) (h' := h_10) (by kernel_rfl) (by kernel_rfl) (val_of AV.bool e13 (by kernel_rfl)) ?_
   refine WL.a (some 15) (.bool t14) h_10 ?_
   replace hF := lett_some hF; obtain ⟨j21, e15, hF⟩ := hF
   have J16 : ∀ (t21 : Bool) (h_14 : AHeap), j21 t21 h_14 = some (rR, hR) → WL Try.prog w0 m0 (Func.ntmps Try.f27) (Code.ops (Code.p1 (Code.p1 (Code.p1 (Code.p1 (Code.p1 (Code.p2 (Code.p2 (codeOf Try.f27))))))))) 11 K12 [(0, strA t0), (1, .int .i64 t1), (2, .int .i64 t2), (3, t3), (8, .int .i64 t8_9), (21, .bool t21)] [] h_14 := by
    intro t21 h_14 hF
    rw [e15] at hF
    refine WL.n ?_
    refine Go.weaken (l' := [(0, strA t0), (1, .int .i64 t1), (2, .int .i64 t2), (3, t3), (8, .int .i64 t8_9), (21, .bool t21)]) (Fr.c (Fr.c (Fr.c (Fr.c (Fr.c (Fr.c Fr.n)))))) ?_
    refine n12 ?_
    cases t21 with
    | true =>
     replace hF := ifB_t hF
     refine W.t ?_
     refine W.skip (by kernel_rfl) ?_
     refine n11 ?_
     refine W.blockK (by kernel_rfl) (fun K17 n17 s17 o17 q17 p17 => ?_)
     refine W.s (fun K18 n18 e18 q18 p18 => ?_)
     refine W.s (fun K19 n19 e19 q19 p19 => ?_)
     refine W.r ?_
     refine WL.a (some 22) (.int .i64 t8_9) h_14 ?_
     refine WL.a (some 23) (.int .i64 t1) h_14 ?_
     replace hF := lett_some hF; obtain ⟨t24, e20, hF⟩ := hF
     refine WL.val (d := (some 24)) (v := .int .i64 t24) (h' := h_14) (by kernel_rfl) (by kernel_rfl) (val_of (AV.int .i64) e20 (by kernel_rfl)) ?_
     refine WL.a (some 25) (.int .i64 t2) h_14 ?_
     replace hF := lett_some hF; obtain ⟨t26, e21, hF⟩ := hF
     refine WL.val (d := (some 26)) (v := .bool t26) (h' := h_14) (by kernel_rfl) (by kernel_rfl) (val_of AV.bool e21 (by kernel_rfl)) ?_
     refine WL.n ?_
     refine Go.weaken (l' := [(0, strA t0), (1, .int .i64 t1), (2, .int .i64 t2), (3, t3), (8, .int .i64 t8_9), (26, .bool t26)]) (Fr.c (Fr.c (Fr.c (Fr.c (Fr.c (Fr.c Fr.n)))))) ?_
     refine n19 ?_
     cases t26 with
     | true =>
      replace hF := ifB_t hF
      refine W.t ?_
      refine W.s (fun K22 n22 e22 q22 p22 => ?_)
      refine W.r ?_
      refine WL.a (some 27) (.int .i64 t8_9) h_14 ?_
      refine WL.a (some 8) (.int .i64 t8_9) h_14 ?_
      refine WL.a (some 9) (.int .i64 3) h_14 ?_
      refine WL.n ?_
      refine Go.weaken (l' := [(8, .int .i64 t8_9), (9, .int .i64 3)]) (Fr.c (Fr.c Fr.n)) ?_
      refine n22 ?_
      refine W.ret (by kernel_rfl) ?_
      refine q18 ?_
      refine q17 ?_
      refine q8 ?_
      refine q4 ?_
      refine q3 ?_
      obtain ⟨hF, hF2⟩ := ret_inj hF; subst hF; subst hF2
      exact leave_of (rs := [.tmp 8, .tmp 9]) (vs := [.int .i64 t8_9, .int .i64 3]) (by kernel_rfl) (res_tmp (by kernel_rfl) (res_tmp (by kernel_rfl) res_nil)) (by kernel_rfl)
     | false =>
      replace hF := ifB_f hF
      refine W.f ?_
      refine W.skip (by kernel_rfl) ?_
      refine n18 ?_
      refine W.r ?_
      refine WL.a (some 28) (.int .i64 t8_9) h_14 ?_
      replace hF := lett_some hF; obtain ⟨t29, e23, hF⟩ := hF
      refine WL.val (d := (some 29)) (v := .int .i64 t29) (h' := h_14) (by kernel_rfl) (by kernel_rfl) (val_of (AV.int .i64) e23 (by kernel_rfl)) ?_
      refine WL.a (some 8) (.int .i64 t29) h_14 ?_
      refine WL.n ?_
      refine Go.weaken (l' := [(0, strA t0), (1, .int .i64 t1), (2, .int .i64 t2), (3, t3), (8, .int .i64 t29)]) (Fr.c (Fr.c (Fr.c (Fr.c (Fr.c Fr.n))))) ?_
      refine n17 ?_
      refine n8 ?_
      exact Go.weaken (Fr.c (Fr.c (Fr.c (Fr.c (Fr.c Fr.n))))) (ih8 _ _ hF)
    | false =>
     replace hF := ifB_f hF
     refine W.f ?_
     refine W.exit (by kernel_rfl) ?_
     refine e11 ?_
     refine e8 ?_
     refine s4 (by kernel_rfl) ?_
     exact Go.weaken (Fr.c Fr.n) (J5 _ _ hF)
   cases t14 with
   | true =>
    replace hF := ifB_t hF
    refine WL.a (some 16) t3 h_10 ?_
    refine WL.a (some 17) (strA t0) h_10 ?_
    refine WL.a (some 18) (.int .i64 t8_9) h_10 ?_
    replace hF := obind_some hF; obtain ⟨t19, e24, hF⟩ := hF
    refine WL.b (some 19) (.int .u8 t19) h_10 (index_str (P := Try.prog) (h := h_10) (t := 9) (k := .i64) (by kernel_rfl) e24) ?_
    replace hF := callN_some hF; obtain ⟨r20, h_25, e26, hF⟩ := hF
    replace hF := obind_some hF; obtain ⟨t20, c27, hF⟩ := hF
    have c27 := avBool_some c27
    subst c27
    rcases dynC_some e26 with ⟨d28g, d28as, d28h, d281, d282⟩ | ⟨d28v, d28h, d281, d282⟩
    rotate_left
    ·cases d282
     refine WL.val (d := (some 20)) (by kernel_rfl) (by kernel_rfl) (Eq.trans (by kernel_rfl) d281) ?_
     refine WL.a (some 21) (.bool t20) h_25 ?_
     exact WL.weaken (Fr.c (Fr.c (Fr.c (Fr.c (Fr.c (Fr.c Fr.n)))))) (J16 _ _ hF)
    ·refine WL.call (hc.ok w0) (d := (some 20)) (by kernel_rfl) (by kernel_rfl) (Eq.trans (by kernel_rfl) d281) d282 ?_
     refine WL.a (some 21) (.bool t20) h_25 ?_
     exact WL.weaken (Fr.c (Fr.c (Fr.c (Fr.c (Fr.c (Fr.c Fr.n)))))) (J16 _ _ hF)
   | false =>
    replace hF := ifB_f hF
    refine WL.o (some 16) ?_
    refine WL.o (some 17) ?_
    refine WL.o (some 18) ?_
    refine WL.o (some 19) ?_
    refine WL.o (some 20) ?_
    refine WL.a (some 21) (.bool false) h_10 ?_
    exact WL.weaken (Fr.c (Fr.c (Fr.c (Fr.c (Fr.c (Fr.c Fr.n)))))) (J16 _ _ hF)
 exact Go.weaken (Fr.c (Fr.c (Fr.c (Fr.c (Fr.c Fr.n))))) (L8 _ _ _ hF)
noncomputable def lex_run_fn (call : CallF) (n : Nat) : FnT := fun args h => match args with
 | [x0, x1, x2, x3] => obind (avStr x0) fun t0 => obind (avInt .i64 x1) fun t1 => obind (avInt .i64 x2) fun t2 => lex_run call n t0 t1 t2 x3 h
 | _ => none
set_option maxRecDepth 100000 in
theorem lex_run_fn_eq (call : CallF) (n : Nat) (t0 : Bytes) (t1 : Int) (t2 : Int) (t3 : AV) (h : AHeap) : lex_run_fn call n [strA t0, .int .i64 t1, .int .i64 t2, t3] h = lex_run call n t0 t1 t2 t3 h :=
 (Eq.trans (obind_eq (fun t0 => obind (avInt .i64 (.int .i64 t1)) fun t1 => obind (avInt .i64 (.int .i64 t2)) fun t2 => lex_run call n t0 t1 t2 t3 h) (avStr_str t0)) (Eq.trans (obind_eq (fun t1 => obind (avInt .i64 (.int .i64 t2)) fun t2 => lex_run call n t0 t1 t2 t3 h) (avInt_int .i64 t1)) (Eq.trans (obind_eq (fun t2 => lex_run call n t0 t1 t2 t3 h) (avInt_int .i64 t2)) rfl)))
theorem lex_run_holds {call : CallF} (hc : SaysAll Try.prog call) (n : Nat) : Holds Try.prog 27 (lex_run_fn call n) := by
 intro args h r h2 e
 unfold lex_run_fn at e
 split at e
 ·replace e := obind_some e; obtain ⟨t0, c0, e⟩ := e; have c0 := avStr_some c0; subst c0
  replace e := obind_some e; obtain ⟨t1, c1, e⟩ := e; have c1 := avInt_some c1; subst c1
  replace e := obind_some e; obtain ⟨t2, c2, e⟩ := e; have c2 := avInt_some c2; subst c2
  exact lex_run_ok hc e
 ·cases e

noncomputable def lex_small (_ : CallF) (_ : Nat) (t0 : Int) (h : AHeap) : R :=
 lett (decide (t0 ≥ 97)) fun (t4 : Bool) =>
 lett (fun (t8 : Bool) (h_4 : AHeap) =>
  some (.ret (.bool t8), h_4)) fun j8 =>
 ifB t4
 (
  lett (decide (t0 ≤ 122)) fun (t7 : Bool) =>
  j8 t7 h)
 (
  j8 false h)
set_option maxHeartbeats 4000000 in
set_option maxRecDepth 20000 in
theorem lex_small_ok {call : CallF} (_ : SaysAll Try.prog call) {n : Nat} {t0 : Int} {h : AHeap} {rR : ARes} {hR : AHeap} (hF : lex_small call n t0 h = some (rR, hR)) : Says Try.prog 15 [.int .u8 t0] h rR hR := by
 unfold lex_small at hF
 refine says_of (fn := Try.f15) Try.func15 (c := codeOf Try.f15) (by kernel_rfl) (by kernel_rfl) (fun w0 m0 => ?_)
 refine W.weaken (l' := [(0, .int .u8 t0)]) (Fr.c Fr.n) ?_
 refine W.s (fun K1 n1 e1 q1 p1 => ?_)
 refine W.r ?_
 refine WL.a (some 2) (.bool false) h ?_
 refine WL.n ?_
 refine Go.weaken (l' := [(0, .int .u8 t0)]) (Fr.c Fr.n) ?_
 refine n1 ?_
 refine W.s (fun K2 n2 e2 q2 p2 => ?_)
 refine W.r ?_
 refine WL.a (some 3) (.int .u8 t0) h ?_
 replace hF := lett_some hF; obtain ⟨t4, e3, hF⟩ := hF
 refine WL.val (d := (some 4)) (v := .bool t4) (h' := h) (by kernel_rfl) (by kernel_rfl) (val_of AV.bool e3 (by kernel_rfl)) ?_
 refine WL.a (some 5) (.bool t4) h ?_
 replace hF := lett_some hF; obtain ⟨j8, e5, hF⟩ := hF
 have J6 : ∀ (t8 : Bool) (h_4 : AHeap), j8 t8 h_4 = some (rR, hR) → WL Try.prog w0 m0 (Func.ntmps Try.f15) (Code.ops (Code.p1 (Code.p2 (codeOf Try.f15)))) 6 K2 [(8, .bool t8)] [] h_4 := by
  intro t8 h_4 hF
  rw [e5] at hF
  refine WL.a (some 2) (.bool t8) h_4 ?_
  refine WL.n ?_
  refine Go.weaken (l' := [(2, .bool t8)]) (Fr.c Fr.n) ?_
  refine n2 ?_
  refine W.ret (by kernel_rfl) ?_
  obtain ⟨hF, hF2⟩ := ret_inj hF; subst hF; subst hF2
  exact leave_of (rs := [.tmp 2]) (vs := [.bool t8]) (by kernel_rfl) (res_tmp (by kernel_rfl) res_nil) (by kernel_rfl)
 cases t4 with
 | true =>
  replace hF := ifB_t hF
  refine WL.a (some 6) (.int .u8 t0) h ?_
  replace hF := lett_some hF; obtain ⟨t7, e7, hF⟩ := hF
  refine WL.val (d := (some 7)) (v := .bool t7) (h' := h) (by kernel_rfl) (by kernel_rfl) (val_of AV.bool e7 (by kernel_rfl)) ?_
  refine WL.a (some 8) (.bool t7) h ?_
  exact WL.weaken (Fr.c Fr.n) (J6 _ _ hF)
 | false =>
  replace hF := ifB_f hF
  refine WL.o (some 6) ?_
  refine WL.o (some 7) ?_
  refine WL.a (some 8) (.bool false) h ?_
  exact WL.weaken (Fr.c Fr.n) (J6 _ _ hF)
noncomputable def lex_small_fn (call : CallF) (n : Nat) : FnT := fun args h => match args with
 | [x0] => obind (avInt .u8 x0) fun t0 => lex_small call n t0 h
 | _ => none
set_option maxRecDepth 100000 in
theorem lex_small_fn_eq (call : CallF) (n : Nat) (t0 : Int) (h : AHeap) : lex_small_fn call n [.int .u8 t0] h = lex_small call n t0 h :=
 (Eq.trans (obind_eq (fun t0 => lex_small call n t0 h) (avInt_int .u8 t0)) rfl)
theorem lex_small_holds {call : CallF} (hc : SaysAll Try.prog call) (n : Nat) : Holds Try.prog 15 (lex_small_fn call n) := by
 intro args h r h2 e
 unfold lex_small_fn at e
 split at e
 ·replace e := obind_some e; obtain ⟨t0, c0, e⟩ := e; have c0 := avInt_some c0; subst c0
  exact lex_small_ok hc e
 ·cases e

noncomputable def lex_digit (_ : CallF) (_ : Nat) (t0 : Int) (h : AHeap) : R :=
 lett (decide (t0 ≥ 48)) fun (t4 : Bool) =>
 lett (fun (t8 : Bool) (h_4 : AHeap) =>
  some (.ret (.bool t8), h_4)) fun j8 =>
 ifB t4
 (
  lett (decide (t0 ≤ 57)) fun (t7 : Bool) =>
  j8 t7 h)
 (
  j8 false h)
set_option maxHeartbeats 4000000 in
set_option maxRecDepth 20000 in
theorem lex_digit_ok {call : CallF} (_ : SaysAll Try.prog call) {n : Nat} {t0 : Int} {h : AHeap} {rR : ARes} {hR : AHeap} (hF : lex_digit call n t0 h = some (rR, hR)) : Says Try.prog 29 [.int .u8 t0] h rR hR := by
 unfold lex_digit at hF
 refine says_of (fn := Try.f29) Try.func29 (c := codeOf Try.f29) (by kernel_rfl) (by kernel_rfl) (fun w0 m0 => ?_)
 refine W.weaken (l' := [(0, .int .u8 t0)]) (Fr.c Fr.n) ?_
 refine W.s (fun K1 n1 e1 q1 p1 => ?_)
 refine W.r ?_
 refine WL.a (some 2) (.bool false) h ?_
 refine WL.n ?_
 refine Go.weaken (l' := [(0, .int .u8 t0)]) (Fr.c Fr.n) ?_
 refine n1 ?_
 refine W.s (fun K2 n2 e2 q2 p2 => ?_)
 refine W.r ?_
 refine WL.a (some 3) (.int .u8 t0) h ?_
 replace hF := lett_some hF; obtain ⟨t4, e3, hF⟩ := hF
 refine WL.val (d := (some 4)) (v := .bool t4) (h' := h) (by kernel_rfl) (by kernel_rfl) (val_of AV.bool e3 (by kernel_rfl)) ?_
 refine WL.a (some 5) (.bool t4) h ?_
 replace hF := lett_some hF; obtain ⟨j8, e5, hF⟩ := hF
 have J6 : ∀ (t8 : Bool) (h_4 : AHeap), j8 t8 h_4 = some (rR, hR) → WL Try.prog w0 m0 (Func.ntmps Try.f29) (Code.ops (Code.p1 (Code.p2 (codeOf Try.f29)))) 6 K2 [(8, .bool t8)] [] h_4 := by
  intro t8 h_4 hF
  rw [e5] at hF
  refine WL.a (some 2) (.bool t8) h_4 ?_
  refine WL.n ?_
  refine Go.weaken (l' := [(2, .bool t8)]) (Fr.c Fr.n) ?_
  refine n2 ?_
  refine W.ret (by kernel_rfl) ?_
  obtain ⟨hF, hF2⟩ := ret_inj hF; subst hF; subst hF2
  exact leave_of (rs := [.tmp 2]) (vs := [.bool t8]) (by kernel_rfl) (res_tmp (by kernel_rfl) res_nil) (by kernel_rfl)
 cases t4 with
 | true =>
  replace hF := ifB_t hF
  refine WL.a (some 6) (.int .u8 t0) h ?_
  replace hF := lett_some hF; obtain ⟨t7, e7, hF⟩ := hF
  refine WL.val (d := (some 7)) (v := .bool t7) (h' := h) (by kernel_rfl) (by kernel_rfl) (val_of AV.bool e7 (by kernel_rfl)) ?_
  refine WL.a (some 8) (.bool t7) h ?_
  exact WL.weaken (Fr.c Fr.n) (J6 _ _ hF)
 | false =>
  replace hF := ifB_f hF
  refine WL.o (some 6) ?_
  refine WL.o (some 7) ?_
  refine WL.a (some 8) (.bool false) h ?_
  exact WL.weaken (Fr.c Fr.n) (J6 _ _ hF)
noncomputable def lex_digit_fn (call : CallF) (n : Nat) : FnT := fun args h => match args with
 | [x0] => obind (avInt .u8 x0) fun t0 => lex_digit call n t0 h
 | _ => none
set_option maxRecDepth 100000 in
theorem lex_digit_fn_eq (call : CallF) (n : Nat) (t0 : Int) (h : AHeap) : lex_digit_fn call n [.int .u8 t0] h = lex_digit call n t0 h :=
 (Eq.trans (obind_eq (fun t0 => lex_digit call n t0 h) (avInt_int .u8 t0)) rfl)
theorem lex_digit_holds {call : CallF} (hc : SaysAll Try.prog call) (n : Nat) : Holds Try.prog 29 (lex_digit_fn call n) := by
 intro args h r h2 e
 unfold lex_digit_fn at e
 split at e
 ·replace e := obind_some e; obtain ⟨t0, c0, e⟩ := e; have c0 := avInt_some c0; subst c0
  exact lex_digit_ok hc e
 ·cases e

noncomputable def lex_blank (_ : CallF) (_ : Nat) (t0 : Int) (h : AHeap) : R :=
 lett ((t0 : Int) == 32) fun (t4 : Bool) =>
 lett (fun (t8 : Bool) (h_4 : AHeap) =>
  some (.ret (.bool t8), h_4)) fun j8 =>
 ifB t4
 (
  j8 true h)
 (
  lett ((t0 : Int) == 9) fun (t7 : Bool) =>
  j8 t7 h)
set_option maxHeartbeats 4000000 in
set_option maxRecDepth 20000 in
theorem lex_blank_ok {call : CallF} (_ : SaysAll Try.prog call) {n : Nat} {t0 : Int} {h : AHeap} {rR : ARes} {hR : AHeap} (hF : lex_blank call n t0 h = some (rR, hR)) : Says Try.prog 31 [.int .u8 t0] h rR hR := by
 unfold lex_blank at hF
 refine says_of (fn := Try.f31) Try.func31 (c := codeOf Try.f31) (by kernel_rfl) (by kernel_rfl) (fun w0 m0 => ?_)
 refine W.weaken (l' := [(0, .int .u8 t0)]) (Fr.c Fr.n) ?_
 refine W.s (fun K1 n1 e1 q1 p1 => ?_)
 refine W.r ?_
 refine WL.a (some 2) (.bool false) h ?_
 refine WL.n ?_
 refine Go.weaken (l' := [(0, .int .u8 t0)]) (Fr.c Fr.n) ?_
 refine n1 ?_
 refine W.s (fun K2 n2 e2 q2 p2 => ?_)
 refine W.r ?_
 refine WL.a (some 3) (.int .u8 t0) h ?_
 replace hF := lett_some hF; obtain ⟨t4, e3, hF⟩ := hF
 refine WL.val (d := (some 4)) (v := .bool t4) (h' := h) (by kernel_rfl) (by kernel_rfl) (val_of AV.bool e3 (by kernel_rfl)) ?_
 refine WL.a (some 5) (.bool t4) h ?_
 replace hF := lett_some hF; obtain ⟨j8, e5, hF⟩ := hF
 have J6 : ∀ (t8 : Bool) (h_4 : AHeap), j8 t8 h_4 = some (rR, hR) → WL Try.prog w0 m0 (Func.ntmps Try.f31) (Code.ops (Code.p1 (Code.p2 (codeOf Try.f31)))) 6 K2 [(8, .bool t8)] [] h_4 := by
  intro t8 h_4 hF
  rw [e5] at hF
  refine WL.a (some 2) (.bool t8) h_4 ?_
  refine WL.n ?_
  refine Go.weaken (l' := [(2, .bool t8)]) (Fr.c Fr.n) ?_
  refine n2 ?_
  refine W.ret (by kernel_rfl) ?_
  obtain ⟨hF, hF2⟩ := ret_inj hF; subst hF; subst hF2
  exact leave_of (rs := [.tmp 2]) (vs := [.bool t8]) (by kernel_rfl) (res_tmp (by kernel_rfl) res_nil) (by kernel_rfl)
 cases t4 with
 | true =>
  replace hF := ifB_t hF
  refine WL.o (some 6) ?_
  refine WL.o (some 7) ?_
  refine WL.a (some 8) (.bool true) h ?_
  exact WL.weaken (Fr.c Fr.n) (J6 _ _ hF)
 | false =>
  replace hF := ifB_f hF
  refine WL.a (some 6) (.int .u8 t0) h ?_
  replace hF := lett_some hF; obtain ⟨t7, e7, hF⟩ := hF
  refine WL.val (d := (some 7)) (v := .bool t7) (h' := h) (by kernel_rfl) (by kernel_rfl) (val_of AV.bool e7 (by kernel_rfl)) ?_
  refine WL.a (some 8) (.bool t7) h ?_
  exact WL.weaken (Fr.c Fr.n) (J6 _ _ hF)
noncomputable def lex_blank_fn (call : CallF) (n : Nat) : FnT := fun args h => match args with
 | [x0] => obind (avInt .u8 x0) fun t0 => lex_blank call n t0 h
 | _ => none
set_option maxRecDepth 100000 in
theorem lex_blank_fn_eq (call : CallF) (n : Nat) (t0 : Int) (h : AHeap) : lex_blank_fn call n [.int .u8 t0] h = lex_blank call n t0 h :=
 (Eq.trans (obind_eq (fun t0 => lex_blank call n t0 h) (avInt_int .u8 t0)) rfl)
theorem lex_blank_holds {call : CallF} (hc : SaysAll Try.prog call) (n : Nat) : Holds Try.prog 31 (lex_blank_fn call n) := by
 intro args h r h2 e
 unfold lex_blank_fn at e
 split at e
 ·replace e := obind_some e; obtain ⟨t0, c0, e⟩ := e; have c0 := avInt_some c0; subst c0
  exact lex_blank_ok hc e
 ·cases e

end Go.Proofs.Ytjopejiooipmkaa

namespace Go.Proofs.Ytjopejiooipmkaa
open Go.RowKit Abs

noncomputable def ref12_Lex_L1b (t0 : Bytes) (k68 : Int → AHeap → R) (self : Int → AHeap → R) (t5_72 : Int) (h_73 : AHeap) : R :=
 lett (decide (t5_72 < (lenS t0))) fun (t55 : Bool) =>
 lett (fun (t61 : Bool) (h_77 : AHeap) =>
  ifB t61
  (
   lett (IntKind.i64.wrap (t5_72 + 1)) fun (t63 : Int) =>
   self t63 h_77)
  (
   k68 t5_72 h_77)) fun j61 =>
 ifB t55
 (
  obind (idxS t0 t5_72) fun t59 =>
  lett ((t59 : Int) != 10) fun (t60 : Bool) =>
  j61 t60 h_73)
 (
  j61 false h_73)
noncomputable def ref12_Lex_L1 (t0 : Bytes) (k68 : Int → AHeap → R) : Nat → Int → AHeap → R := iterR (fun _ _ => none) (ref12_Lex_L1b t0 k68)
theorem ref12_Lex_L1_s (t0 : Bytes) (k68 : Int → AHeap → R) (m : Nat) : ref12_Lex_L1 t0 k68 (m + 1) = ref12_Lex_L1b t0 k68 (ref12_Lex_L1 t0 k68 m) := rfl
noncomputable def ref12_Lex_L0b (call : CallF) (n : Nat) (t0 : Bytes) (h : AHeap) (k16 : AV → AHeap → R) (self : AV → Int → Bool → AHeap → R) (t4_24 : AV) (t5 : Int) (t6 : Bool) (h_25 : AHeap) : R :=
 lett (decide (t5 ≤ (lenS t0))) fun (t17 : Bool) =>
 ifB t17
 (
  lett (fun (t4_31 : AV) (t5_32 : Int) (t6_33 : Bool) (h_34 : AHeap) =>
   self t4_31 t5_32 t6_33 h_34) fun k30 =>
  lett ((t5 : Int) == (lenS t0)) fun (t21 : Bool) =>
  lett (fun (t27 : Bool) (h_38 : AHeap) =>
   ifB t27
   (
    lett (fun (t4_44 : AV) (h_45 : AHeap) =>
     lett (IntKind.i64.wrap (t5 + 1)) fun (t35 : Int) =>
     k30 t4_44 t35 false h_45) fun k43 =>
    ifB t6
    (
     outK (bldSl Try.prog h_38 24 1 [(0, .agg ([.int .i64 6, .str 0 0, .int .i64 0, .int .i64 t5] : List AV))]) fun v32 h_49 =>
     outK (opAppend Try.prog h_49 24 24 t4_24 v32) fun v33 h_51 =>
     k43 v33 h_51)
    (
     k43 t4_24 h_38))
   (
    obind (idxS t0 t5) fun t38 =>
    lett ((t38 : Int) == 32) fun (t39 : Bool) =>
    lett (fun (t45 : Bool) (h_57 : AHeap) =>
     ifB t45
     (
      lett (IntKind.i64.wrap (t5 + 1)) fun (t47 : Int) =>
      k30 t4_24 t47 t6 h_57)
     (
      obind (idxS t0 t5) fun t50 =>
      lett ((t50 : Int) == 35) fun (t51 : Bool) =>
      ifB t51
      (
       lett (fun (t5_69 : Int) (h_70 : AHeap) =>
        k30 t4_24 t5_69 t6 h_70) fun k68 =>
       ref12_Lex_L1 t0 k68 n t5 h_57)
      (
       callN (call 14 [strA t0, .int .i64 t5] h_57) fun r67 h_85 =>
       obind (extT 0 r67) fun v68 =>
       obind (avAgg v68) fun t68 =>
       obind (extT 1 r67) fun v69 =>
       obind (avInt .i64 v69) fun t69 =>
       obind (extT 2 r67) fun v70 =>
       obind (avInt .i64 v70) fun t70 =>
       lett (newH h_85 31 [.int .i64 0, .str 0 0, .int .i64 0, .int .i64 0]) fun h_93 =>
       obind (stRow h_93 4 t68 (newP h_85)) fun h_95 =>
       lett ((t70 : Int) != 0) fun (t72 : Bool) =>
       ifB t72
       (
        obind (stRow h_95 2 ([.int .i64 t70, .int .i64 t69] : List AV) (newP h)) fun h_101 =>
        obind (ldRow h_101 2 (newP h)) fun w3_104 =>
        some (.ret (.tup [AV.nsl, .agg w3_104]), h_101))
       (
        obind (ldRow h_95 4 (newP h_85)) fun t77 =>
        outK (bldSl Try.prog h_95 24 1 [(0, .agg t77)]) fun v78 h_107 =>
        outK (opAppend Try.prog h_107 24 24 t4_24 v78) fun v79 h_109 =>
        k30 v79 t69 true h_109)))) fun j45 =>
    ifB t39
    (
     j45 true h_38)
    (
     obind (idxS t0 t5) fun t43 =>
     lett ((t43 : Int) == 9) fun (t44 : Bool) =>
     j45 t44 h_38))) fun j27 =>
  ifB t21
  (
   j27 true h_25)
  (
   obind (idxS t0 t5) fun t25 =>
   lett ((t25 : Int) == 10) fun (t26 : Bool) =>
   j27 t26 h_25))
 (
  k16 t4_24 h_25)
noncomputable def ref12_Lex_L0 (call : CallF) (n : Nat) (t0 : Bytes) (h : AHeap) (k16 : AV → AHeap → R) : Nat → AV → Int → Bool → AHeap → R := iterR (fun _ _ _ _ => none) (ref12_Lex_L0b call n t0 h k16)
theorem ref12_Lex_L0_s (call : CallF) (n : Nat) (t0 : Bytes) (h : AHeap) (k16 : AV → AHeap → R) (m : Nat) : ref12_Lex_L0 call n t0 h k16 (m + 1) = ref12_Lex_L0b call n t0 h k16 (ref12_Lex_L0 call n t0 h k16 m) := rfl
noncomputable def ref12_Lex (call : CallF) (n : Nat) (t0 : Bytes) (h : AHeap) : R :=
 lett (newH h 27 [.int .i64 0, .int .i64 0]) fun h_2 =>
 lett (decide ((lenS t0) > 2048)) fun (t12 : Bool) =>
 ifB t12
 (
  obind (stRow h_2 2 ([.int .i64 3, .int .i64 2048] : List AV) (newP h)) fun h_8 =>
  obind (ldRow h_8 2 (newP h)) fun w3 =>
  some (.ret (.tup [AV.nsl, .agg w3]), h_8))
 (
  lett (fun (t4 : AV) (h_17 : AHeap) =>
   obind (stRow h_17 2 ([.int .i64 0, .int .i64 0] : List AV) (newP h)) fun h_19 =>
   obind (ldRow h_19 2 (newP h)) fun w3_22 =>
   some (.ret (.tup [t4, .agg w3_22]), h_19)) fun k16 =>
  ref12_Lex_L0 call n t0 h k16 n AV.nsl 0 false h_2)
set_option maxHeartbeats 4000000 in
set_option maxRecDepth 20000 in
theorem ref12_Lex_ok {call : CallF} (hc : SaysAll Try.prog call) {n : Nat} {t0 : Bytes} {h : AHeap} {rR : ARes} {hR : AHeap} (hF : ref12_Lex call n t0 h = some (rR, hR)) : Says Try.prog 10 [strA t0] h rR hR := by
 unfold ref12_Lex at hF
 refine says_of (fn := Try.f10) Try.func10 (c := codeOf Try.f10) (by kernel_rfl) (by kernel_rfl) (fun w0 m0 => ?_)
 refine W.weaken (l' := [(0, strA t0)]) (Fr.c Fr.n) ?_
 refine W.s (fun K1 n1 e1 q1 p1 => ?_)
 refine W.r ?_
 refine WL.a (some 2) AV.nsl h ?_
 replace hF := lett_some hF; obtain ⟨h_2, e3, hF⟩ := hF
 refine WL.val (d := (some 3)) (v := (newP h)) (h' := h_2) (by kernel_rfl) (by kernel_rfl) (val_ofH e3 (by kernel_rfl)) ?_
 refine WL.n ?_
 refine Go.weaken (l' := [(0, strA t0), (3, (newP h))]) (Fr.c (Fr.c Fr.n)) ?_
 refine n1 ?_
 refine W.s (fun K4 n4 e4 q4 p4 => ?_)
 refine W.s (fun K5 n5 e5 q5 p5 => ?_)
 refine W.r ?_
 refine WL.a (some 10) (strA t0) h_2 ?_
 refine WL.a (some 11) (.int .i64 (lenS t0)) h_2 ?_
 replace hF := lett_some hF; obtain ⟨t12, e6, hF⟩ := hF
 refine WL.val (d := (some 12)) (v := .bool t12) (h' := h_2) (by kernel_rfl) (by kernel_rfl) (val_of AV.bool e6 (by kernel_rfl)) ?_
 refine WL.n ?_
 refine Go.weaken (l' := [(0, strA t0), (3, (newP h)), (12, .bool t12)]) (Fr.c (Fr.c (Fr.c Fr.n))) ?_
 refine n5 ?_
 cases t12 with
 | true =>
  replace hF := ifB_t hF
  refine W.t ?_
  refine W.s (fun K7 n7 e7 q7 p7 => ?_)
  refine W.r ?_
  refine WL.a (some 13) (.agg ([.int .i64 3, .int .i64 2048] : List AV)) h_2 ?_
  refine WL.a (some 2) AV.nsl h_2 ?_
  replace hF := obind_some hF; obtain ⟨h_8, e9, hF⟩ := hF
  refine WL.e h_8 (store_row (P := Try.prog) (h := h_2) (t := 27) (v := (.agg ([.int .i64 3, .int .i64 2048] : List AV))) (by kernel_rfl) (by kernel_rfl) e9) ?_
  refine WL.n ?_
  refine Go.weaken (l' := [(2, AV.nsl), (3, (newP h))]) (Fr.c (Fr.c Fr.n)) ?_
  refine n7 ?_
  refine W.ret (by kernel_rfl) ?_
  refine q4 ?_
  replace hF := obind_some hF; obtain ⟨w3, e10, hF⟩ := hF
  obtain ⟨hF, hF2⟩ := ret_inj hF; subst hF; subst hF2
  exact leave_of (rs := [.tmp 2, .cell 3 27]) (vs := [AV.nsl, .agg w3]) (by kernel_rfl) (res_tmp (by kernel_rfl) (res_cell (by kernel_rfl) (load_row (P := Try.prog) (h := h_8) (t := 27) (by kernel_rfl) (by kernel_rfl) e10) res_nil)) (by kernel_rfl)
 | false =>
  replace hF := ifB_f hF
  refine W.f ?_
  refine W.skip (by kernel_rfl) ?_
  refine n4 ?_
  refine W.s (fun K11 n11 e11 q11 p11 => ?_)
  refine W.r ?_
  refine WL.a (some 4) AV.nsl h_2 ?_
  refine WL.n ?_
  refine Go.weaken (l' := [(0, strA t0), (3, (newP h)), (4, AV.nsl)]) (Fr.c (Fr.c (Fr.c Fr.n))) ?_
  refine n11 ?_
  refine W.s (fun K12 n12 e12 q12 p12 => ?_)
  refine W.r ?_
  refine WL.a (some 5) (.int .i64 0) h_2 ?_
  refine WL.n ?_
  refine Go.weaken (l' := [(0, strA t0), (3, (newP h)), (4, AV.nsl), (5, .int .i64 0)]) (Fr.c (Fr.c (Fr.c (Fr.c Fr.n)))) ?_
  refine n12 ?_
  refine W.s (fun K13 n13 e13 q13 p13 => ?_)
  refine W.r ?_
  refine WL.a (some 6) (.bool false) h_2 ?_
  refine WL.n ?_
  refine Go.weaken (l' := [(0, strA t0), (3, (newP h)), (4, AV.nsl), (5, .int .i64 0), (6, .bool false)]) (Fr.c (Fr.c (Fr.c (Fr.c (Fr.c Fr.n))))) ?_
  refine n13 ?_
  refine W.s (fun K14 n14 e14 q14 p14 => ?_)
  replace hF := lett_some hF; obtain ⟨k16, e16, hF⟩ := hF
  have J16 : ∀ (t4 : AV) (h_17 : AHeap), k16 t4 h_17 = some (rR, hR) → Go w0 m0 (Func.ntmps Try.f10) (K14 .normal) [(3, (newP h)), (4, t4)] [] h_17 := by
   intro t4 h_17 hF
   rw [e16] at hF
   refine n14 ?_
   refine W.s (fun K18 n18 e18 q18 p18 => ?_)
   refine W.r ?_
   refine WL.a (some 81) t4 h_17 ?_
   refine WL.a (some 82) (.agg ([.int .i64 0, .int .i64 0] : List AV)) h_17 ?_
   refine WL.a (some 2) t4 h_17 ?_
   replace hF := obind_some hF; obtain ⟨h_19, e20, hF⟩ := hF
   refine WL.e h_19 (store_row (P := Try.prog) (h := h_17) (t := 27) (v := (.agg ([.int .i64 0, .int .i64 0] : List AV))) (by kernel_rfl) (by kernel_rfl) e20) ?_
   refine WL.n ?_
   refine Go.weaken (l' := [(2, t4), (3, (newP h))]) (Fr.c (Fr.c Fr.n)) ?_
   refine n18 ?_
   refine W.ret (by kernel_rfl) ?_
   replace hF := obind_some hF; obtain ⟨w3_22, e21, hF⟩ := hF
   obtain ⟨hF, hF2⟩ := ret_inj hF; subst hF; subst hF2
   exact leave_of (rs := [.tmp 2, .cell 3 27]) (vs := [t4, .agg w3_22]) (by kernel_rfl) (res_tmp (by kernel_rfl) (res_cell (by kernel_rfl) (load_row (P := Try.prog) (h := h_19) (t := 27) (by kernel_rfl) (by kernel_rfl) e21) res_nil)) (by kernel_rfl)
  refine W.blockK (by kernel_rfl) (fun K15 n15 s15 o15 q15 p15 => ?_)
  refine W.loopK (by kernel_rfl) (fun I23 K23 b23 n23 e23 q23 p23 => ?_)
  have L23 : ∀ (m : Nat) (t4_24 : AV) (t5 : Int) (t6 : Bool) (h_25 : AHeap), ref12_Lex_L0 call n t0 h k16 m t4_24 t5 t6 h_25 = some (rR, hR) → Go w0 m0 (Func.ntmps Try.f10) I23 [(0, strA t0), (3, (newP h)), (4, t4_24), (5, .int .i64 t5), (6, .bool t6)] [] h_25 := by
   intro m
   induction m with
   | zero => intro t4_24 t5 t6 h_25 hF; cases hF
   | succ m ih23 =>
    intro t4_24 t5 t6 h_25 hF
    rw [ref12_Lex_L0_s] at hF; unfold ref12_Lex_L0b at hF
    refine b23 ?_
    refine W.s (fun K26 n26 e26 q26 p26 => ?_)
    refine W.s (fun K27 n27 e27 q27 p27 => ?_)
    refine W.r ?_
    refine WL.a (some 14) (.int .i64 t5) h_25 ?_
    refine WL.a (some 15) (strA t0) h_25 ?_
    refine WL.a (some 16) (.int .i64 (lenS t0)) h_25 ?_
    replace hF := lett_some hF; obtain ⟨t17, e28, hF⟩ := hF
    refine WL.val (d := (some 17)) (v := .bool t17) (h' := h_25) (by kernel_rfl) (by kernel_rfl) (val_of AV.bool e28 (by kernel_rfl)) ?_
    refine WL.n ?_
    refine Go.weaken (l' := [(0, strA t0), (3, (newP h)), (4, t4_24), (5, .int .i64 t5), (6, .bool t6), (17, .bool t17)]) (Fr.c (Fr.c (Fr.c (Fr.c (Fr.c (Fr.c Fr.n)))))) ?_
    refine n27 ?_
    cases t17 with
    | true =>
     replace hF := ifB_t hF
     refine W.t ?_
     refine W.skip (by kernel_rfl) ?_
     refine n26 ?_
     replace hF := lett_some hF; obtain ⟨k30, e30, hF⟩ := hF
     have J30 : ∀ (t4_31 : AV) (t5_32 : Int) (t6_33 : Bool) (h_34 : AHeap), k30 t4_31 t5_32 t6_33 h_34 = some (rR, hR) → Go w0 m0 (Func.ntmps Try.f10) (K23 .normal) [(0, strA t0), (3, (newP h)), (4, t4_31), (5, .int .i64 t5_32), (6, .bool t6_33)] [] h_34 := by
      intro t4_31 t5_32 t6_33 h_34 hF
      rw [e30] at hF
      refine n23 ?_
      exact Go.weaken (Fr.c (Fr.c (Fr.c (Fr.c (Fr.c Fr.n))))) (ih23 _ _ _ _ hF)
     refine W.blockK (by kernel_rfl) (fun K29 n29 s29 o29 q29 p29 => ?_)
     refine W.s (fun K35 n35 e35 q35 p35 => ?_)
     refine W.s (fun K36 n36 e36 q36 p36 => ?_)
     refine W.r ?_
     refine WL.a (some 18) (.int .i64 t5) h_25 ?_
     refine WL.a (some 19) (strA t0) h_25 ?_
     refine WL.a (some 20) (.int .i64 (lenS t0)) h_25 ?_
     replace hF := lett_some hF; obtain ⟨t21, e37, hF⟩ := hF
     refine WL.val (d := (some 21)) (v := .bool t21) (h' := h_25) (by kernel_rfl) (by kernel_rfl) (val_of AV.bool e37 (by kernel_rfl)) ?_
     refine WL.a (some 22) (.bool t21) h_25 ?_
     replace hF := lett_some hF; obtain ⟨j27, e39, hF⟩ := hF
     have J40 : ∀ (t27 : Bool) (h_38 : AHeap), j27 t27 h_38 = some (rR, hR) → WL Try.prog w0 m0 (Func.ntmps Try.f10) (Code.ops (Code.p1 (Code.p1 (Code.p1 (Code.p2 (Code.p1 (Code.p1 (Code.p1 (Code.p2 (Code.p2 (Code.p2 (Code.p2 (Code.p2 (codeOf Try.f10)))))))))))))) 10 K36 [(0, strA t0), (3, (newP h)), (4, t4_24), (5, .int .i64 t5), (6, .bool t6), (27, .bool t27)] [] h_38 := by
      intro t27 h_38 hF
      rw [e39] at hF
      refine WL.n ?_
      refine Go.weaken (l' := [(0, strA t0), (3, (newP h)), (4, t4_24), (5, .int .i64 t5), (6, .bool t6), (27, .bool t27)]) (Fr.c (Fr.c (Fr.c (Fr.c (Fr.c (Fr.c Fr.n)))))) ?_
      refine n36 ?_
      cases t27 with
      | true =>
       replace hF := ifB_t hF
       refine W.t ?_
       refine W.s (fun K41 n41 e41 q41 p41 => ?_)
       refine W.s (fun K42 n42 e42 q42 p42 => ?_)
       refine W.r ?_
       refine WL.a (some 28) (.bool t6) h_38 ?_
       refine WL.n ?_
       refine Go.weaken (l' := [(0, strA t0), (3, (newP h)), (4, t4_24), (5, .int .i64 t5), (28, .bool t6)]) (Fr.c (Fr.c (Fr.c (Fr.c (Fr.c Fr.n))))) ?_
       refine n42 ?_
       replace hF := lett_some hF; obtain ⟨k43, e43, hF⟩ := hF
       have J43 : ∀ (t4_44 : AV) (h_45 : AHeap), k43 t4_44 h_45 = some (rR, hR) → Go w0 m0 (Func.ntmps Try.f10) (K41 .normal) [(0, strA t0), (3, (newP h)), (4, t4_44), (5, .int .i64 t5)] [] h_45 := by
        intro t4_44 h_45 hF
        rw [e43] at hF
        refine n41 ?_
        refine W.s (fun K46 n46 e46 q46 p46 => ?_)
        refine W.r ?_
        refine WL.a (some 6) (.bool false) h_45 ?_
        refine WL.n ?_
        refine Go.weaken (l' := [(0, strA t0), (3, (newP h)), (4, t4_44), (5, .int .i64 t5), (6, .bool false)]) (Fr.c (Fr.c (Fr.c (Fr.c (Fr.c Fr.n))))) ?_
        refine n46 ?_
        refine W.s (fun K47 n47 e47 q47 p47 => ?_)
        refine W.r ?_
        refine WL.a (some 34) (.int .i64 t5) h_45 ?_
        replace hF := lett_some hF; obtain ⟨t35, e48, hF⟩ := hF
        refine WL.val (d := (some 35)) (v := .int .i64 t35) (h' := h_45) (by kernel_rfl) (by kernel_rfl) (val_of (AV.int .i64) e48 (by kernel_rfl)) ?_
        refine WL.a (some 5) (.int .i64 t35) h_45 ?_
        refine WL.n ?_
        refine Go.weaken (l' := [(0, strA t0), (3, (newP h)), (4, t4_44), (5, .int .i64 t35), (6, .bool false)]) (Fr.c (Fr.c (Fr.c (Fr.c (Fr.c Fr.n))))) ?_
        refine n47 ?_
        refine W.exit (by kernel_rfl) ?_
        refine e35 ?_
        refine s29 (by kernel_rfl) ?_
        exact Go.weaken (Fr.c (Fr.c (Fr.c (Fr.c (Fr.c Fr.n))))) (J30 _ _ _ _ hF)
       cases t6 with
       | true =>
        replace hF := ifB_t hF
        refine W.t ?_
        refine W.r ?_
        refine WL.a (some 29) t4_24 h_38 ?_
        refine WL.a (some 30) (.int .i64 t5) h_38 ?_
        refine WL.a (some 31) (.agg ([.int .i64 6, .str 0 0, .int .i64 0, .int .i64 t5] : List AV)) h_38 ?_
        replace hF := outK_some hF; obtain ⟨v32, h_49, e50, hF⟩ := hF
        refine WL.b (some 32) v32 h_49 e50 ?_
        replace hF := outK_some hF; obtain ⟨v33, h_51, e52, hF⟩ := hF
        refine WL.b (some 33) v33 h_51 e52 ?_
        refine WL.a (some 4) v33 h_51 ?_
        refine WL.n ?_
        refine Go.weaken (l' := [(0, strA t0), (3, (newP h)), (4, v33), (5, .int .i64 t5)]) (Fr.c (Fr.c (Fr.c (Fr.c Fr.n)))) ?_
        exact Go.weaken (Fr.c (Fr.c (Fr.c (Fr.c Fr.n)))) (J43 _ _ hF)
       | false =>
        replace hF := ifB_f hF
        refine W.f ?_
        refine W.skip (by kernel_rfl) ?_
        exact Go.weaken (Fr.c (Fr.c (Fr.c (Fr.c Fr.n)))) (J43 _ _ hF)
      | false =>
       replace hF := ifB_f hF
       refine W.f ?_
       refine W.skip (by kernel_rfl) ?_
       refine n35 ?_
       refine W.s (fun K53 n53 e53 q53 p53 => ?_)
       refine W.s (fun K54 n54 e54 q54 p54 => ?_)
       refine W.r ?_
       refine WL.a (some 36) (strA t0) h_38 ?_
       refine WL.a (some 37) (.int .i64 t5) h_38 ?_
       replace hF := obind_some hF; obtain ⟨t38, e55, hF⟩ := hF
       refine WL.b (some 38) (.int .u8 t38) h_38 (index_str (P := Try.prog) (h := h_38) (t := 9) (k := .i64) (by kernel_rfl) e55) ?_
       replace hF := lett_some hF; obtain ⟨t39, e56, hF⟩ := hF
       refine WL.val (d := (some 39)) (v := .bool t39) (h' := h_38) (by kernel_rfl) (by kernel_rfl) (val_of AV.bool e56 (by kernel_rfl)) ?_
       refine WL.a (some 40) (.bool t39) h_38 ?_
       replace hF := lett_some hF; obtain ⟨j45, e58, hF⟩ := hF
       have J59 : ∀ (t45 : Bool) (h_57 : AHeap), j45 t45 h_57 = some (rR, hR) → WL Try.prog w0 m0 (Func.ntmps Try.f10) (Code.ops (Code.p1 (Code.p1 (Code.p2 (Code.p1 (Code.p2 (Code.p1 (Code.p1 (Code.p1 (Code.p2 (Code.p2 (Code.p2 (Code.p2 (Code.p2 (codeOf Try.f10))))))))))))))) 10 K54 [(0, strA t0), (3, (newP h)), (4, t4_24), (5, .int .i64 t5), (6, .bool t6), (45, .bool t45)] [] h_57 := by
        intro t45 h_57 hF
        rw [e58] at hF
        refine WL.n ?_
        refine Go.weaken (l' := [(0, strA t0), (3, (newP h)), (4, t4_24), (5, .int .i64 t5), (6, .bool t6), (45, .bool t45)]) (Fr.c (Fr.c (Fr.c (Fr.c (Fr.c (Fr.c Fr.n)))))) ?_
        refine n54 ?_
        cases t45 with
        | true =>
         replace hF := ifB_t hF
         refine W.t ?_
         refine W.s (fun K60 n60 e60 q60 p60 => ?_)
         refine W.r ?_
         refine WL.a (some 46) (.int .i64 t5) h_57 ?_
         replace hF := lett_some hF; obtain ⟨t47, e61, hF⟩ := hF
         refine WL.val (d := (some 47)) (v := .int .i64 t47) (h' := h_57) (by kernel_rfl) (by kernel_rfl) (val_of (AV.int .i64) e61 (by kernel_rfl)) ?_
         refine WL.a (some 5) (.int .i64 t47) h_57 ?_
         refine WL.n ?_
         refine Go.weaken (l' := [(0, strA t0), (3, (newP h)), (4, t4_24), (5, .int .i64 t47), (6, .bool t6)]) (Fr.c (Fr.c (Fr.c (Fr.c (Fr.c Fr.n))))) ?_
         refine n60 ?_
         refine W.exit (by kernel_rfl) ?_
         refine e53 ?_
         refine s29 (by kernel_rfl) ?_
         exact Go.weaken (Fr.c (Fr.c (Fr.c (Fr.c (Fr.c Fr.n))))) (J30 _ _ _ _ hF)
        | false =>
         replace hF := ifB_f hF
         refine W.f ?_
         refine W.skip (by kernel_rfl) ?_
         refine n53 ?_
         refine W.s (fun K62 n62 e62 q62 p62 => ?_)
         refine W.s (fun K63 n63 e63 q63 p63 => ?_)
         refine W.r ?_
         refine WL.a (some 48) (strA t0) h_57 ?_
         refine WL.a (some 49) (.int .i64 t5) h_57 ?_
         replace hF := obind_some hF; obtain ⟨t50, e64, hF⟩ := hF
         refine WL.b (some 50) (.int .u8 t50) h_57 (index_str (P := Try.prog) (h := h_57) (t := 9) (k := .i64) (by kernel_rfl) e64) ?_
         replace hF := lett_some hF; obtain ⟨t51, e65, hF⟩ := hF
         refine WL.val (d := (some 51)) (v := .bool t51) (h' := h_57) (by kernel_rfl) (by kernel_rfl) (val_of AV.bool e65 (by kernel_rfl)) ?_
         refine WL.n ?_
         refine Go.weaken (l' := [(0, strA t0), (3, (newP h)), (4, t4_24), (5, .int .i64 t5), (6, .bool t6), (51, .bool t51)]) (Fr.c (Fr.c (Fr.c (Fr.c (Fr.c (Fr.c Fr.n)))))) ?_
         refine n63 ?_
         cases t51 with
         | true =>
          replace hF := ifB_t hF
          refine W.t ?_
          refine W.s (fun K66 n66 e66 q66 p66 => ?_)
          replace hF := lett_some hF; obtain ⟨k68, e68, hF⟩ := hF
          have J68 : ∀ (t5_69 : Int) (h_70 : AHeap), k68 t5_69 h_70 = some (rR, hR) → Go w0 m0 (Func.ntmps Try.f10) (K66 .normal) [(0, strA t0), (3, (newP h)), (4, t4_24), (5, .int .i64 t5_69), (6, .bool t6)] [] h_70 := by
           intro t5_69 h_70 hF
           rw [e68] at hF
           refine n66 ?_
           refine W.exit (by kernel_rfl) ?_
           refine e62 ?_
           refine s29 (by kernel_rfl) ?_
           exact Go.weaken (Fr.c (Fr.c (Fr.c (Fr.c (Fr.c Fr.n))))) (J30 _ _ _ _ hF)
          refine W.blockK (by kernel_rfl) (fun K67 n67 s67 o67 q67 p67 => ?_)
          refine W.loopK (by kernel_rfl) (fun I71 K71 b71 n71 e71 q71 p71 => ?_)
          have L71 : ∀ (m : Nat) (t5_72 : Int) (h_73 : AHeap), ref12_Lex_L1 t0 k68 m t5_72 h_73 = some (rR, hR) → Go w0 m0 (Func.ntmps Try.f10) I71 [(0, strA t0), (3, (newP h)), (4, t4_24), (5, .int .i64 t5_72), (6, .bool t6)] [] h_73 := by
           intro m
           induction m with
           | zero => intro t5_72 h_73 hF; cases hF
           | succ m ih71 =>
            intro t5_72 h_73 hF
            rw [ref12_Lex_L1_s] at hF; unfold ref12_Lex_L1b at hF
            refine b71 ?_
            refine W.s (fun K74 n74 e74 q74 p74 => ?_)
            refine W.s (fun K75 n75 e75 q75 p75 => ?_)
            refine W.r ?_
            refine WL.a (some 52) (.int .i64 t5_72) h_73 ?_
            refine WL.a (some 53) (strA t0) h_73 ?_
            refine WL.a (some 54) (.int .i64 (lenS t0)) h_73 ?_
            replace hF := lett_some hF; obtain ⟨t55, e76, hF⟩ := hF
            refine WL.val (d := (some 55)) (v := .bool t55) (h' := h_73) (by kernel_rfl) (by kernel_rfl) (val_of AV.bool e76 (by kernel_rfl)) ?_
            refine WL.a (some 56) (.bool t55) h_73 ?_
            replace hF := lett_some hF; obtain ⟨j61, e78, hF⟩ := hF
            have J79 : ∀ (t61 : Bool) (h_77 : AHeap), j61 t61 h_77 = some (rR, hR) → WL Try.prog w0 m0 (Func.ntmps Try.f10) (Code.ops (Code.p1 (Code.p1 (Code.p1 (Code.p1 (Code.p1 (Code.p1 (Code.p2 (Code.p1 (Code.p2 (Code.p2 (Code.p1 (Code.p2 (Code.p1 (Code.p1 (Code.p1 (Code.p2 (Code.p2 (Code.p2 (Code.p2 (Code.p2 (codeOf Try.f10)))))))))))))))))))))) 10 K75 [(0, strA t0), (3, (newP h)), (4, t4_24), (5, .int .i64 t5_72), (6, .bool t6), (61, .bool t61)] [] h_77 := by
             intro t61 h_77 hF
             rw [e78] at hF
             refine WL.n ?_
             refine Go.weaken (l' := [(0, strA t0), (3, (newP h)), (4, t4_24), (5, .int .i64 t5_72), (6, .bool t6), (61, .bool t61)]) (Fr.c (Fr.c (Fr.c (Fr.c (Fr.c (Fr.c Fr.n)))))) ?_
             refine n75 ?_
             cases t61 with
             | true =>
              replace hF := ifB_t hF
              refine W.t ?_
              refine W.skip (by kernel_rfl) ?_
              refine n74 ?_
              refine W.blockK (by kernel_rfl) (fun K80 n80 s80 o80 q80 p80 => ?_)
              refine W.r ?_
              refine WL.a (some 62) (.int .i64 t5_72) h_77 ?_
              replace hF := lett_some hF; obtain ⟨t63, e81, hF⟩ := hF
              refine WL.val (d := (some 63)) (v := .int .i64 t63) (h' := h_77) (by kernel_rfl) (by kernel_rfl) (val_of (AV.int .i64) e81 (by kernel_rfl)) ?_
              refine WL.a (some 5) (.int .i64 t63) h_77 ?_
              refine WL.n ?_
              refine Go.weaken (l' := [(0, strA t0), (3, (newP h)), (4, t4_24), (5, .int .i64 t63), (6, .bool t6)]) (Fr.c (Fr.c (Fr.c (Fr.c (Fr.c Fr.n))))) ?_
              refine n80 ?_
              refine n71 ?_
              exact Go.weaken (Fr.c (Fr.c (Fr.c (Fr.c (Fr.c Fr.n))))) (ih71 _ _ hF)
             | false =>
              replace hF := ifB_f hF
              refine W.f ?_
              refine W.exit (by kernel_rfl) ?_
              refine e74 ?_
              refine e71 ?_
              refine s67 (by kernel_rfl) ?_
              exact Go.weaken (Fr.c (Fr.c (Fr.c (Fr.c (Fr.c Fr.n))))) (J68 _ _ hF)
            cases t55 with
            | true =>
             replace hF := ifB_t hF
             refine WL.a (some 57) (strA t0) h_73 ?_
             refine WL.a (some 58) (.int .i64 t5_72) h_73 ?_
             replace hF := obind_some hF; obtain ⟨t59, e82, hF⟩ := hF
             refine WL.b (some 59) (.int .u8 t59) h_73 (index_str (P := Try.prog) (h := h_73) (t := 9) (k := .i64) (by kernel_rfl) e82) ?_
             replace hF := lett_some hF; obtain ⟨t60, e83, hF⟩ := hF
             refine WL.val (d := (some 60)) (v := .bool t60) (h' := h_73) (by kernel_rfl) (by kernel_rfl) (val_of AV.bool e83 (by kernel_rfl)) ?_
             refine WL.a (some 61) (.bool t60) h_73 ?_
             exact WL.weaken (Fr.c (Fr.c (Fr.c (Fr.c (Fr.c (Fr.c Fr.n)))))) (J79 _ _ hF)
            | false =>
             replace hF := ifB_f hF
             refine WL.o (some 57) ?_
             refine WL.o (some 58) ?_
             refine WL.o (some 59) ?_
             refine WL.o (some 60) ?_
             refine WL.a (some 61) (.bool false) h_73 ?_
             exact WL.weaken (Fr.c (Fr.c (Fr.c (Fr.c (Fr.c (Fr.c Fr.n)))))) (J79 _ _ hF)
          exact Go.weaken (Fr.c (Fr.c (Fr.c (Fr.c (Fr.c Fr.n))))) (L71 _ _ _ hF)
         | false =>
          replace hF := ifB_f hF
          refine W.f ?_
          refine W.skip (by kernel_rfl) ?_
          refine n62 ?_
          refine W.s (fun K84 n84 e84 q84 p84 => ?_)
          refine W.r ?_
          refine WL.a (some 65) (strA t0) h_57 ?_
          refine WL.a (some 66) (.int .i64 t5) h_57 ?_
          replace hF := callN_some hF; obtain ⟨r67, h_85, e86, hF⟩ := hF
          refine WL.c (hc.ok w0) (some 67) e86 ?_
          refine WL.a (some 64) r67 h_85 ?_
          replace hF := obind_some hF; obtain ⟨v68, e87, hF⟩ := hF
          replace hF := obind_some hF; obtain ⟨t68, c88, hF⟩ := hF
          have c88 := avAgg_some c88
          subst c88
          refine WL.b (some 68) (.agg t68) h_85 (extract_tup (h := h_85) e87) ?_
          replace hF := obind_some hF; obtain ⟨v69, e89, hF⟩ := hF
          replace hF := obind_some hF; obtain ⟨t69, c90, hF⟩ := hF
          have c90 := avInt_some c90
          subst c90
          refine WL.b (some 69) (.int .i64 t69) h_85 (extract_tup (h := h_85) e89) ?_
          replace hF := obind_some hF; obtain ⟨v70, e91, hF⟩ := hF
          replace hF := obind_some hF; obtain ⟨t70, c92, hF⟩ := hF
          have c92 := avInt_some c92
          subst c92
          refine WL.b (some 70) (.int .i64 t70) h_85 (extract_tup (h := h_85) e91) ?_
          replace hF := lett_some hF; obtain ⟨h_93, e94, hF⟩ := hF
          refine WL.val (d := (some 7)) (v := (newP h_85)) (h' := h_93) (by kernel_rfl) (by kernel_rfl) (val_ofH e94 (by kernel_rfl)) ?_
          replace hF := obind_some hF; obtain ⟨h_95, e96, hF⟩ := hF
          refine WL.e h_95 (store_row (P := Try.prog) (h := h_93) (t := 31) (v := (.agg t68)) (by kernel_rfl) (by kernel_rfl) e96) ?_
          refine WL.a (some 8) (.int .i64 t69) h_95 ?_
          refine WL.a (some 9) (.int .i64 t70) h_95 ?_
          refine WL.n ?_
          refine Go.weaken (l' := [(0, strA t0), (3, (newP h)), (4, t4_24), (7, (newP h_85)), (8, .int .i64 t69), (9, .int .i64 t70)]) (Fr.c (Fr.c (Fr.c (Fr.c (Fr.c (Fr.c Fr.n)))))) ?_
          refine n84 ?_
          refine W.s (fun K97 n97 e97 q97 p97 => ?_)
          refine W.s (fun K98 n98 e98 q98 p98 => ?_)
          refine W.r ?_
          refine WL.a (some 71) (.int .i64 t70) h_95 ?_
          replace hF := lett_some hF; obtain ⟨t72, e99, hF⟩ := hF
          refine WL.val (d := (some 72)) (v := .bool t72) (h' := h_95) (by kernel_rfl) (by kernel_rfl) (val_of AV.bool e99 (by kernel_rfl)) ?_
          refine WL.n ?_
          refine Go.weaken (l' := [(0, strA t0), (3, (newP h)), (4, t4_24), (7, (newP h_85)), (8, .int .i64 t69), (9, .int .i64 t70), (72, .bool t72)]) (Fr.c (Fr.c (Fr.c (Fr.c (Fr.c (Fr.c (Fr.c Fr.n))))))) ?_
          refine n98 ?_
          cases t72 with
          | true =>
           replace hF := ifB_t hF
           refine W.t ?_
           refine W.s (fun K100 n100 e100 q100 p100 => ?_)
           refine W.r ?_
           refine WL.a (some 73) (.int .i64 t70) h_95 ?_
           refine WL.a (some 74) (.int .i64 t69) h_95 ?_
           refine WL.a (some 75) (.agg ([.int .i64 t70, .int .i64 t69] : List AV)) h_95 ?_
           refine WL.a (some 2) AV.nsl h_95 ?_
           replace hF := obind_some hF; obtain ⟨h_101, e102, hF⟩ := hF
           refine WL.e h_101 (store_row (P := Try.prog) (h := h_95) (t := 27) (v := (.agg ([.int .i64 t70, .int .i64 t69] : List AV))) (by kernel_rfl) (by kernel_rfl) e102) ?_
           refine WL.n ?_
           refine Go.weaken (l' := [(2, AV.nsl), (3, (newP h))]) (Fr.c (Fr.c Fr.n)) ?_
           refine n100 ?_
           refine W.ret (by kernel_rfl) ?_
           refine q97 ?_
           refine q29 ?_
           refine q23 ?_
           refine q15 ?_
           refine q14 ?_
           replace hF := obind_some hF; obtain ⟨w3_104, e103, hF⟩ := hF
           obtain ⟨hF, hF2⟩ := ret_inj hF; subst hF; subst hF2
           exact leave_of (rs := [.tmp 2, .cell 3 27]) (vs := [AV.nsl, .agg w3_104]) (by kernel_rfl) (res_tmp (by kernel_rfl) (res_cell (by kernel_rfl) (load_row (P := Try.prog) (h := h_101) (t := 27) (by kernel_rfl) (by kernel_rfl) e103) res_nil)) (by kernel_rfl)
          | false =>
           replace hF := ifB_f hF
           refine W.f ?_
           refine W.skip (by kernel_rfl) ?_
           refine n97 ?_
           refine W.s (fun K105 n105 e105 q105 p105 => ?_)
           refine W.r ?_
           refine WL.a (some 76) t4_24 h_95 ?_
           replace hF := obind_some hF; obtain ⟨t77, e106, hF⟩ := hF
           refine WL.b (some 77) (.agg t77) h_95 (load_row (P := Try.prog) (h := h_95) (t := 31) (by kernel_rfl) (by kernel_rfl) e106) ?_
           replace hF := outK_some hF; obtain ⟨v78, h_107, e108, hF⟩ := hF
           refine WL.b (some 78) v78 h_107 e108 ?_
           replace hF := outK_some hF; obtain ⟨v79, h_109, e110, hF⟩ := hF
           refine WL.b (some 79) v79 h_109 e110 ?_
           refine WL.a (some 4) v79 h_109 ?_
           refine WL.n ?_
           refine Go.weaken (l' := [(0, strA t0), (3, (newP h)), (4, v79), (8, .int .i64 t69)]) (Fr.c (Fr.c (Fr.c (Fr.c Fr.n)))) ?_
           refine n105 ?_
           refine W.s (fun K111 n111 e111 q111 p111 => ?_)
           refine W.r ?_
           refine WL.a (some 6) (.bool true) h_109 ?_
           refine WL.n ?_
           refine Go.weaken (l' := [(0, strA t0), (3, (newP h)), (4, v79), (6, .bool true), (8, .int .i64 t69)]) (Fr.c (Fr.c (Fr.c (Fr.c (Fr.c Fr.n))))) ?_
           refine n111 ?_
           refine W.r ?_
           refine WL.a (some 80) (.int .i64 t69) h_109 ?_
           refine WL.a (some 5) (.int .i64 t69) h_109 ?_
           refine WL.n ?_
           refine Go.weaken (l' := [(0, strA t0), (3, (newP h)), (4, v79), (5, .int .i64 t69), (6, .bool true)]) (Fr.c (Fr.c (Fr.c (Fr.c (Fr.c Fr.n))))) ?_
           refine n29 ?_
           exact Go.weaken (Fr.c (Fr.c (Fr.c (Fr.c (Fr.c Fr.n))))) (J30 _ _ _ _ hF)
       cases t39 with
       | true =>
        replace hF := ifB_t hF
        refine WL.o (some 41) ?_
        refine WL.o (some 42) ?_
        refine WL.o (some 43) ?_
        refine WL.o (some 44) ?_
        refine WL.a (some 45) (.bool true) h_38 ?_
        exact WL.weaken (Fr.c (Fr.c (Fr.c (Fr.c (Fr.c (Fr.c Fr.n)))))) (J59 _ _ hF)
       | false =>
        replace hF := ifB_f hF
        refine WL.a (some 41) (strA t0) h_38 ?_
        refine WL.a (some 42) (.int .i64 t5) h_38 ?_
        replace hF := obind_some hF; obtain ⟨t43, e112, hF⟩ := hF
        refine WL.b (some 43) (.int .u8 t43) h_38 (index_str (P := Try.prog) (h := h_38) (t := 9) (k := .i64) (by kernel_rfl) e112) ?_
        replace hF := lett_some hF; obtain ⟨t44, e113, hF⟩ := hF
        refine WL.val (d := (some 44)) (v := .bool t44) (h' := h_38) (by kernel_rfl) (by kernel_rfl) (val_of AV.bool e113 (by kernel_rfl)) ?_
        refine WL.a (some 45) (.bool t44) h_38 ?_
        exact WL.weaken (Fr.c (Fr.c (Fr.c (Fr.c (Fr.c (Fr.c Fr.n)))))) (J59 _ _ hF)
     cases t21 with
     | true =>
      replace hF := ifB_t hF
      refine WL.o (some 23) ?_
      refine WL.o (some 24) ?_
      refine WL.o (some 25) ?_
      refine WL.o (some 26) ?_
      refine WL.a (some 27) (.bool true) h_25 ?_
      exact WL.weaken (Fr.c (Fr.c (Fr.c (Fr.c (Fr.c (Fr.c Fr.n)))))) (J40 _ _ hF)
     | false =>
      replace hF := ifB_f hF
      refine WL.a (some 23) (strA t0) h_25 ?_
      refine WL.a (some 24) (.int .i64 t5) h_25 ?_
      replace hF := obind_some hF; obtain ⟨t25, e114, hF⟩ := hF
      refine WL.b (some 25) (.int .u8 t25) h_25 (index_str (P := Try.prog) (h := h_25) (t := 9) (k := .i64) (by kernel_rfl) e114) ?_
      replace hF := lett_some hF; obtain ⟨t26, e115, hF⟩ := hF
      refine WL.val (d := (some 26)) (v := .bool t26) (h' := h_25) (by kernel_rfl) (by kernel_rfl) (val_of AV.bool e115 (by kernel_rfl)) ?_
      refine WL.a (some 27) (.bool t26) h_25 ?_
      exact WL.weaken (Fr.c (Fr.c (Fr.c (Fr.c (Fr.c (Fr.c Fr.n)))))) (J40 _ _ hF)
    | false =>
     replace hF := ifB_f hF
     refine W.f ?_
     refine W.exit (by kernel_rfl) ?_
     refine e26 ?_
     refine e23 ?_
     refine s15 (by kernel_rfl) ?_
     exact Go.weaken (Fr.c (Fr.c Fr.n)) (J16 _ _ hF)
  exact Go.weaken (Fr.c (Fr.c (Fr.c (Fr.c (Fr.c Fr.n))))) (L23 _ _ _ _ _ hF)
noncomputable def ref12_Lex_fn (call : CallF) (n : Nat) : FnT := fun args h => match args with
 | [x0] => obind (avStr x0) fun t0 => ref12_Lex call n t0 h
 | _ => none
theorem ref12_Lex_holds {call : CallF} (hc : SaysAll Try.prog call) (n : Nat) : Holds Try.prog 10 (ref12_Lex_fn call n) := by
 intro args h r h2 e
 unfold ref12_Lex_fn at e
 split at e
 ·replace e := obind_some e; obtain ⟨t0, c0, e⟩ := e; have c0 := avStr_some c0; subst c0
  exact ref12_Lex_ok hc e
 ·cases e

noncomputable def ref12_token_L1b (call : CallF) (t0 : Bytes) (t1 : Int) (h : AHeap) (h_2 : AHeap) (k109 : Int → AHeap → R) (self : Int → AHeap → R) (t8_113 : Int) (h_114 : AHeap) : R :=
 lett (decide (t8_113 < (lenS t0))) fun (t76 : Bool) =>
 lett (fun (t82 : Bool) (h_118 : AHeap) =>
  ifB t82
  (
   lett (IntKind.i64.wrap (t8_113 - t1)) fun (t85 : Int) =>
   lett ((t85 : Int) == 4) fun (t86 : Bool) =>
   ifB t86
   (
    obind (ldRow h_118 4 (newP h_2)) fun t87 =>
    obind (stRow h_118 4 t87 (newP h)) fun h_128 =>
    obind (ldRow h_128 4 (newP h)) fun w4_131 =>
    some (.ret (.tup [.agg w4_131, .int .i64 t8_113, .int .i64 3]), h_128))
   (
    obind (ldCell h_118 (AV.ptr (AHeap.next h_2) 2)) fun v90 =>
    obind (avInt .i64 v90) fun t90 =>
    lett (IntKind.i64.wrap (10 * t90)) fun (t91 : Int) =>
    obind (idxS t0 t8_113) fun t94 =>
    lett (IntKind.i64.wrap t94) fun (t95 : Int) =>
    lett (IntKind.i64.wrap (t91 + t95)) fun (t96 : Int) =>
    lett (IntKind.i64.wrap (t96 - 48)) fun (t97 : Int) =>
    obind (stRow h_118 1 [.int .i64 t97] (AV.ptr (AHeap.next h_2) 2)) fun h_140 =>
    lett (IntKind.i64.wrap (t8_113 + 1)) fun (t100 : Int) =>
    self t100 h_140))
  (
   k109 t8_113 h_118)) fun j82 =>
 ifB t76
 (
  obind (idxS t0 t8_113) fun t80 =>
  callN (call 24 [.int .u8 t80] h_114) fun r81 h_144 =>
  obind (avBool r81) fun t81 =>
  j82 t81 h_144)
 (
  j82 false h_114)
noncomputable def ref12_token_L1 (call : CallF) (t0 : Bytes) (t1 : Int) (h : AHeap) (h_2 : AHeap) (k109 : Int → AHeap → R) : Nat → Int → AHeap → R := iterR (fun _ _ => none) (ref12_token_L1b call t0 t1 h h_2 k109)
theorem ref12_token_L1_s (call : CallF) (t0 : Bytes) (t1 : Int) (h : AHeap) (h_2 : AHeap) (k109 : Int → AHeap → R) (m : Nat) : ref12_token_L1 call t0 t1 h h_2 k109 (m + 1) = ref12_token_L1b call t0 t1 h h_2 k109 (ref12_token_L1 call t0 t1 h h_2 k109 m) := rfl
noncomputable def ref12_token_L0b (call : CallF) (t0 : Bytes) (t1 : Int) (h : AHeap) (h_2 : AHeap) (k38 : Int → AHeap → R) (self : Int → AHeap → R) (t8_63 : Int) (h_64 : AHeap) : R :=
 lett (decide (t8_63 < (lenS t0))) fun (t25 : Bool) =>
 lett (fun (t31 : Bool) (h_68 : AHeap) =>
  ifB t31
  (
   lett (IntKind.i64.wrap (t8_63 - t1)) fun (t34 : Int) =>
   lett ((t34 : Int) == 16) fun (t35 : Bool) =>
   ifB t35
   (
    obind (ldRow h_68 4 (newP h_2)) fun t36 =>
    obind (stRow h_68 4 t36 (newP h)) fun h_78 =>
    obind (ldRow h_78 4 (newP h)) fun w4_81 =>
    some (.ret (.tup [.agg w4_81, .int .i64 t8_63, .int .i64 3]), h_78))
   (
    lett (IntKind.i64.wrap (t8_63 + 1)) fun (t39 : Int) =>
    self t39 h_68))
  (
   k38 t8_63 h_68)) fun j31 =>
 ifB t25
 (
  obind (idxS t0 t8_63) fun t29 =>
  callN (call 19 [.int .u8 t29] h_64) fun r30 h_84 =>
  obind (avBool r30) fun t30 =>
  j31 t30 h_84)
 (
  j31 false h_64)
noncomputable def ref12_token_L0 (call : CallF) (t0 : Bytes) (t1 : Int) (h : AHeap) (h_2 : AHeap) (k38 : Int → AHeap → R) : Nat → Int → AHeap → R := iterR (fun _ _ => none) (ref12_token_L0b call t0 t1 h h_2 k38)
theorem ref12_token_L0_s (call : CallF) (t0 : Bytes) (t1 : Int) (h : AHeap) (h_2 : AHeap) (k38 : Int → AHeap → R) (m : Nat) : ref12_token_L0 call t0 t1 h h_2 k38 (m + 1) = ref12_token_L0b call t0 t1 h h_2 k38 (ref12_token_L0 call t0 t1 h h_2 k38 m) := rfl
noncomputable def ref12_token (call : CallF) (n : Nat) (t0 : Bytes) (t1 : Int) (h : AHeap) : R :=
 lett (newH h 31 [.int .i64 0, .str 0 0, .int .i64 0, .int .i64 0]) fun h_2 =>
 lett (newH h_2 31 [.int .i64 0, .str 0 0, .int .i64 0, .int .i64 0]) fun h_5 =>
 obind (stRow h_5 4 ([.int .i64 0, .str 0 0, .int .i64 0, .int .i64 t1] : List AV) (newP h_2)) fun h_7 =>
 obind (idxS t0 t1) fun t20 =>
 callN (call 18 [.int .u8 t20] h_7) fun r21 h_14 =>
 obind (avBool r21) fun t21 =>
 lett (fun (t8 : Int) (h_18 : AHeap) =>
  callN (call 26 [strA t0, .int .i64 t8] h_18) fun r158 h_21 =>
  obind (avBool r158) fun t158 =>
  lett (!t158) fun (t159 : Bool) =>
  ifB t159
  (
   obind (ldRow h_21 4 (newP h_2)) fun t160 =>
   obind (stRow h_21 4 t160 (newP h)) fun h_27 =>
   obind (ldRow h_27 4 (newP h)) fun w4 =>
   some (.ret (.tup [.agg w4, .int .i64 t8, .int .i64 6]), h_27))
  (
   obind (ldRow h_21 4 (newP h_2)) fun t162 =>
   obind (stRow h_21 4 t162 (newP h)) fun h_32 =>
   obind (ldRow h_32 4 (newP h)) fun w4_35 =>
   some (.ret (.tup [.agg w4_35, .int .i64 t8, .int .i64 0]), h_32))) fun k17 =>
 ifB t21
 (
  lett (fun (t8_39 : Int) (h_40 : AHeap) =>
   obind (stRow h_40 1 [.int .i64 1] (AV.ptr (AHeap.next h_2) 0)) fun h_42 =>
   obind (sliceS t0 t1 t8_39) fun t44 =>
   obind (stRow h_42 1 [strA t44] (AV.ptr (AHeap.next h_2) 1)) fun h_46 =>
   lett (decide (t8_39 < (lenS t0))) fun (t49 : Bool) =>
   lett (fun (t55 : Bool) (h_50 : AHeap) =>
    lett (fun (t8_54 : Int) (h_55 : AHeap) =>
     k17 t8_54 h_55) fun k53 =>
    ifB t55
    (
     obind (stRow h_50 1 [.int .i64 2] (AV.ptr (AHeap.next h_2) 0)) fun h_57 =>
     lett (IntKind.i64.wrap (t8_39 + 1)) fun (t58 : Int) =>
     k53 t58 h_57)
    (
     k53 t8_39 h_50)) fun j55 =>
   ifB t49
   (
    obind (idxS t0 t8_39) fun t53 =>
    lett ((t53 : Int) == 58) fun (t54 : Bool) =>
    j55 t54 h_46)
   (
    j55 false h_46)) fun k38 =>
  ref12_token_L0 call t0 t1 h h_2 k38 n t1 h_14)
 (
  obind (idxS t0 t1) fun t62 =>
  lett ((t62 : Int) == 48) fun (t63 : Bool) =>
  lett (fun (t8_91 : Int) (h_92 : AHeap) =>
   k17 t8_91 h_92) fun k90 =>
  ifB t63
  (
   obind (stRow h_14 1 [.int .i64 3] (AV.ptr (AHeap.next h_2) 0)) fun h_94 =>
   lett (IntKind.i64.wrap (t1 + 1)) fun (t66 : Int) =>
   k90 t66 h_94)
  (
   obind (idxS t0 t1) fun t70 =>
   callN (call 24 [.int .u8 t70] h_14) fun r71 h_99 =>
   obind (avBool r71) fun t71 =>
   lett (fun (t8_103 : Int) (h_104 : AHeap) =>
    k90 t8_103 h_104) fun k102 =>
   ifB t71
   (
    obind (stRow h_99 1 [.int .i64 3] (AV.ptr (AHeap.next h_2) 0)) fun h_106 =>
    lett (fun (t8_110 : Int) (h_111 : AHeap) =>
     k102 t8_110 h_111) fun k109 =>
    ref12_token_L1 call t0 t1 h h_2 k109 n t1 h_106)
   (
    obind (idxS t0 t1) fun t104 =>
    lett ((t104 : Int) == 34) fun (t105 : Bool) =>
    lett (fun (t8_151 : Int) (h_152 : AHeap) =>
     k102 t8_151 h_152) fun k150 =>
    ifB t105
    (
     obind (sliceS t0 t1 (lenS t0)) fun t109 =>
     callN (call 25 [strA t109, .int .i64 64] h_99) fun r110 h_155 =>
     obind (extT 0 r110) fun v111 =>
     obind (avStr v111) fun t111 =>
     obind (extT 1 r110) fun v112 =>
     obind (avInt .i64 v112) fun t112 =>
     obind (extT 2 r110) fun v113 =>
     obind (avAgg v113) fun t113 =>
     lett (newH h_155 27 [.int .i64 0, .int .i64 0]) fun h_163 =>
     obind (stRow h_163 2 t113 (newP h_155)) fun h_165 =>
     obind (ldCell h_165 (AV.ptr (AHeap.next h_155) 0)) fun v115 =>
     obind (avInt .i64 v115) fun t115 =>
     lett ((t115 : Int) != 0) fun (t116 : Bool) =>
     ifB t116
     (
      obind (ldRow h_165 4 (newP h_2)) fun t117 =>
      obind (ldCell h_165 (AV.ptr (AHeap.next h_155) 1)) fun v120 =>
      obind (avInt .i64 v120) fun t120 =>
      lett (IntKind.i64.wrap (t1 + t120)) fun (t121 : Int) =>
      obind (ldCell h_165 (AV.ptr (AHeap.next h_155) 0)) fun v123 =>
      obind (avInt .i64 v123) fun t123 =>
      obind (stRow h_165 4 t117 (newP h)) fun h_179 =>
      chk (reLoad Try.prog h_179 25 (AV.ptr (AHeap.next h_155) 0) (.int .i64 t123) && (reLoad Try.prog h_179 3 (AV.ptr (AHeap.next h_155) 1) (.int .i64 t120) && (true && true))) <|
      obind (ldRow h_179 4 (newP h)) fun w4_183 =>
      some (.ret (.tup [.agg w4_183, .int .i64 t121, .int .i64 t123]), h_179))
     (
      obind (stRow h_165 1 [.int .i64 4] (AV.ptr (AHeap.next h_2) 0)) fun h_185 =>
      obind (stRow h_185 1 [strA t111] (AV.ptr (AHeap.next h_2) 1)) fun h_188 =>
      lett (IntKind.i64.wrap (t1 + t112)) fun (t129 : Int) =>
      k150 t129 h_188))
    (
     obind (idxS t0 t1) fun t133 =>
     lett ((t133 : Int) == 60) fun (t134 : Bool) =>
     lett (fun (t140 : Bool) (h_194 : AHeap) =>
      lett (fun (t146 : Bool) (h_197 : AHeap) =>
       ifB t146
       (
        obind (stRow h_197 1 [.int .i64 5] (AV.ptr (AHeap.next h_2) 0)) fun h_201 =>
        lett (IntKind.i64.wrap (t1 + 1)) fun (t151 : Int) =>
        obind (sliceS t0 t1 t151) fun t152 =>
        obind (stRow h_201 1 [strA t152] (AV.ptr (AHeap.next h_2) 1)) fun h_206 =>
        lett (IntKind.i64.wrap (t1 + 1)) fun (t155 : Int) =>
        k150 t155 h_206)
       (
        obind (ldRow h_197 4 (newP h_2)) fun t15 =>
        obind (stRow h_197 4 t15 (newP h)) fun h_211 =>
        obind (ldRow h_211 4 (newP h)) fun w4_214 =>
        some (.ret (.tup [.agg w4_214, .int .i64 t1, .int .i64 6]), h_211))) fun j146 =>
      ifB t140
      (
       j146 true h_194)
      (
       obind (idxS t0 t1) fun t144 =>
       lett ((t144 : Int) == 125) fun (t145 : Bool) =>
       j146 t145 h_194)) fun j140 =>
     ifB t134
     (
      j140 true h_99)
     (
      obind (idxS t0 t1) fun t138 =>
      lett ((t138 : Int) == 123) fun (t139 : Bool) =>
      j140 t139 h_99)))))
set_option maxHeartbeats 4000000 in
set_option maxRecDepth 20000 in
theorem ref12_token_ok {call : CallF} (hc : SaysAll Try.prog call) {n : Nat} {t0 : Bytes} {t1 : Int} {h : AHeap} {rR : ARes} {hR : AHeap} (hF : ref12_token call n t0 t1 h = some (rR, hR)) : Says Try.prog 14 [strA t0, .int .i64 t1] h rR hR := by
 unfold ref12_token at hF
 refine says_of (fn := Try.f14) Try.func14 (c := codeOf Try.f14) (by kernel_rfl) (by kernel_rfl) (fun w0 m0 => ?_)
 refine W.weaken (l' := [(0, strA t0), (1, .int .i64 t1)]) (Fr.c (Fr.c Fr.n)) ?_
 refine W.s (fun K1 n1 e1 q1 p1 => ?_)
 refine W.r ?_
 replace hF := lett_some hF; obtain ⟨h_2, e3, hF⟩ := hF
 refine WL.val (d := (some 4)) (v := (newP h)) (h' := h_2) (by kernel_rfl) (by kernel_rfl) (val_ofH e3 (by kernel_rfl)) ?_
 refine WL.a (some 5) (.int .i64 0) h_2 ?_
 refine WL.a (some 6) (.int .i64 0) h_2 ?_
 refine WL.n ?_
 refine Go.weaken (l' := [(0, strA t0), (1, .int .i64 t1), (4, (newP h))]) (Fr.c (Fr.c (Fr.c Fr.n))) ?_
 refine n1 ?_
 refine W.s (fun K4 n4 e4 q4 p4 => ?_)
 refine W.r ?_
 refine WL.a (some 12) (.int .i64 t1) h_2 ?_
 refine WL.a (some 13) (.agg ([.int .i64 0, .str 0 0, .int .i64 0, .int .i64 t1] : List AV)) h_2 ?_
 replace hF := lett_some hF; obtain ⟨h_5, e6, hF⟩ := hF
 refine WL.val (d := (some 7)) (v := (newP h_2)) (h' := h_5) (by kernel_rfl) (by kernel_rfl) (val_ofH e6 (by kernel_rfl)) ?_
 replace hF := obind_some hF; obtain ⟨h_7, e8, hF⟩ := hF
 refine WL.e h_7 (store_row (P := Try.prog) (h := h_5) (t := 31) (v := (.agg ([.int .i64 0, .str 0 0, .int .i64 0, .int .i64 t1] : List AV))) (by kernel_rfl) (by kernel_rfl) e8) ?_
 refine WL.n ?_
 refine Go.weaken (l' := [(0, strA t0), (1, .int .i64 t1), (4, (newP h)), (7, (newP h_2))]) (Fr.c (Fr.c (Fr.c (Fr.c Fr.n)))) ?_
 refine n4 ?_
 refine W.s (fun K9 n9 e9 q9 p9 => ?_)
 refine W.r ?_
 refine WL.a (some 14) (.int .i64 t1) h_7 ?_
 refine WL.a (some 8) (.int .i64 t1) h_7 ?_
 refine WL.n ?_
 refine Go.weaken (l' := [(0, strA t0), (1, .int .i64 t1), (4, (newP h)), (7, (newP h_2)), (8, .int .i64 t1)]) (Fr.c (Fr.c (Fr.c (Fr.c (Fr.c Fr.n))))) ?_
 refine n9 ?_
 refine W.s (fun K10 n10 e10 q10 p10 => ?_)
 refine W.blockK (by kernel_rfl) (fun K11 n11 s11 o11 q11 p11 => ?_)
 refine W.s (fun K12 n12 e12 q12 p12 => ?_)
 refine W.r ?_
 refine WL.a (some 18) (strA t0) h_7 ?_
 refine WL.a (some 19) (.int .i64 t1) h_7 ?_
 replace hF := obind_some hF; obtain ⟨t20, e13, hF⟩ := hF
 refine WL.b (some 20) (.int .u8 t20) h_7 (index_str (P := Try.prog) (h := h_7) (t := 9) (k := .i64) (by kernel_rfl) e13) ?_
 replace hF := callN_some hF; obtain ⟨r21, h_14, e15, hF⟩ := hF
 replace hF := obind_some hF; obtain ⟨t21, c16, hF⟩ := hF
 have c16 := avBool_some c16
 subst c16
 refine WL.c (hc.ok w0) (some 21) e15 ?_
 refine WL.a (some 17) (.bool t21) h_14 ?_
 refine WL.n ?_
 refine Go.weaken (l' := [(0, strA t0), (1, .int .i64 t1), (4, (newP h)), (7, (newP h_2)), (8, .int .i64 t1), (17, .bool t21)]) (Fr.c (Fr.c (Fr.c (Fr.c (Fr.c (Fr.c Fr.n)))))) ?_
 refine n12 ?_
 replace hF := lett_some hF; obtain ⟨k17, e17, hF⟩ := hF
 have J17 : ∀ (t8 : Int) (h_18 : AHeap), k17 t8 h_18 = some (rR, hR) → Go w0 m0 (Func.ntmps Try.f14) (K11 .normal) [(0, strA t0), (4, (newP h)), (7, (newP h_2)), (8, .int .i64 t8)] [] h_18 := by
  intro t8 h_18 hF
  rw [e17] at hF
  refine n11 ?_
  refine n10 ?_
  refine W.s (fun K19 n19 e19 q19 p19 => ?_)
  refine W.s (fun K20 n20 e20 q20 p20 => ?_)
  refine W.r ?_
  refine WL.a (some 156) (strA t0) h_18 ?_
  refine WL.a (some 157) (.int .i64 t8) h_18 ?_
  replace hF := callN_some hF; obtain ⟨r158, h_21, e22, hF⟩ := hF
  replace hF := obind_some hF; obtain ⟨t158, c23, hF⟩ := hF
  have c23 := avBool_some c23
  subst c23
  refine WL.c (hc.ok w0) (some 158) e22 ?_
  replace hF := lett_some hF; obtain ⟨t159, e24, hF⟩ := hF
  refine WL.val (d := (some 159)) (v := .bool t159) (h' := h_21) (by kernel_rfl) (by kernel_rfl) (val_of AV.bool e24 (by kernel_rfl)) ?_
  refine WL.n ?_
  refine Go.weaken (l' := [(4, (newP h)), (7, (newP h_2)), (8, .int .i64 t8), (159, .bool t159)]) (Fr.c (Fr.c (Fr.c (Fr.c Fr.n)))) ?_
  refine n20 ?_
  cases t159 with
  | true =>
   replace hF := ifB_t hF
   refine W.t ?_
   refine W.s (fun K25 n25 e25 q25 p25 => ?_)
   refine W.r ?_
   replace hF := obind_some hF; obtain ⟨t160, e26, hF⟩ := hF
   refine WL.b (some 160) (.agg t160) h_21 (load_row (P := Try.prog) (h := h_21) (t := 31) (by kernel_rfl) (by kernel_rfl) e26) ?_
   refine WL.a (some 161) (.int .i64 t8) h_21 ?_
   replace hF := obind_some hF; obtain ⟨h_27, e28, hF⟩ := hF
   refine WL.e h_27 (store_row (P := Try.prog) (h := h_21) (t := 31) (v := (.agg t160)) (by kernel_rfl) (by kernel_rfl) e28) ?_
   refine WL.a (some 5) (.int .i64 t8) h_27 ?_
   refine WL.a (some 6) (.int .i64 6) h_27 ?_
   refine WL.n ?_
   refine Go.weaken (l' := [(4, (newP h)), (5, .int .i64 t8), (6, .int .i64 6)]) (Fr.c (Fr.c (Fr.c Fr.n))) ?_
   refine n25 ?_
   refine W.ret (by kernel_rfl) ?_
   refine q19 ?_
   replace hF := obind_some hF; obtain ⟨w4, e29, hF⟩ := hF
   obtain ⟨hF, hF2⟩ := ret_inj hF; subst hF; subst hF2
   exact leave_of (rs := [.cell 4 31, .tmp 5, .tmp 6]) (vs := [.agg w4, .int .i64 t8, .int .i64 6]) (by kernel_rfl) (res_cell (by kernel_rfl) (load_row (P := Try.prog) (h := h_27) (t := 31) (by kernel_rfl) (by kernel_rfl) e29) (res_tmp (by kernel_rfl) (res_tmp (by kernel_rfl) res_nil))) (by kernel_rfl)
  | false =>
   replace hF := ifB_f hF
   refine W.f ?_
   refine W.skip (by kernel_rfl) ?_
   refine n19 ?_
   refine W.s (fun K30 n30 e30 q30 p30 => ?_)
   refine W.r ?_
   replace hF := obind_some hF; obtain ⟨t162, e31, hF⟩ := hF
   refine WL.b (some 162) (.agg t162) h_21 (load_row (P := Try.prog) (h := h_21) (t := 31) (by kernel_rfl) (by kernel_rfl) e31) ?_
   refine WL.a (some 163) (.int .i64 t8) h_21 ?_
   replace hF := obind_some hF; obtain ⟨h_32, e33, hF⟩ := hF
   refine WL.e h_32 (store_row (P := Try.prog) (h := h_21) (t := 31) (v := (.agg t162)) (by kernel_rfl) (by kernel_rfl) e33) ?_
   refine WL.a (some 5) (.int .i64 t8) h_32 ?_
   refine WL.a (some 6) (.int .i64 0) h_32 ?_
   refine WL.n ?_
   refine Go.weaken (l' := [(4, (newP h)), (5, .int .i64 t8), (6, .int .i64 0)]) (Fr.c (Fr.c (Fr.c Fr.n))) ?_
   refine n30 ?_
   refine W.ret (by kernel_rfl) ?_
   replace hF := obind_some hF; obtain ⟨w4_35, e34, hF⟩ := hF
   obtain ⟨hF, hF2⟩ := ret_inj hF; subst hF; subst hF2
   exact leave_of (rs := [.cell 4 31, .tmp 5, .tmp 6]) (vs := [.agg w4_35, .int .i64 t8, .int .i64 0]) (by kernel_rfl) (res_cell (by kernel_rfl) (load_row (P := Try.prog) (h := h_32) (t := 31) (by kernel_rfl) (by kernel_rfl) e34) (res_tmp (by kernel_rfl) (res_tmp (by kernel_rfl) res_nil))) (by kernel_rfl)
 cases t21 with
 | true =>
  replace hF := ifB_t hF
  refine W.t ?_
  refine W.s (fun K36 n36 e36 q36 p36 => ?_)
  replace hF := lett_some hF; obtain ⟨k38, e38, hF⟩ := hF
  have J38 : ∀ (t8_39 : Int) (h_40 : AHeap), k38 t8_39 h_40 = some (rR, hR) → Go w0 m0 (Func.ntmps Try.f14) (K36 .normal) [(0, strA t0), (1, .int .i64 t1), (4, (newP h)), (7, (newP h_2)), (8, .int .i64 t8_39)] [] h_40 := by
   intro t8_39 h_40 hF
   rw [e38] at hF
   refine n36 ?_
   refine W.s (fun K41 n41 e41 q41 p41 => ?_)
   refine W.r ?_
   refine WL.a (some 40) (AV.ptr (AHeap.next h_2) 0) h_40 ?_
   replace hF := obind_some hF; obtain ⟨h_42, e43, hF⟩ := hF
   refine WL.e h_42 (store_row (P := Try.prog) (h := h_40) (t := 3) (v := (.int .i64 1)) (by kernel_rfl) (by kernel_rfl) e43) ?_
   refine WL.n ?_
   refine Go.weaken (l' := [(0, strA t0), (1, .int .i64 t1), (4, (newP h)), (7, (newP h_2)), (8, .int .i64 t8_39)]) (Fr.c (Fr.c (Fr.c (Fr.c (Fr.c Fr.n))))) ?_
   refine n41 ?_
   refine W.s (fun K44 n44 e44 q44 p44 => ?_)
   refine W.r ?_
   refine WL.a (some 41) (strA t0) h_42 ?_
   refine WL.a (some 42) (.int .i64 t1) h_42 ?_
   refine WL.a (some 43) (.int .i64 t8_39) h_42 ?_
   replace hF := obind_some hF; obtain ⟨t44, e45, hF⟩ := hF
   refine WL.b (some 44) (strA t44) h_42 (slice_str (P := Try.prog) (h := h_42) (t := 9) (A := (some (.int .i64 t1))) (B := (some (.int .i64 t8_39))) (by kernel_rfl) (.inl ⟨_, rfl⟩) (.inl ⟨_, rfl⟩) e45) ?_
   refine WL.a (some 45) (AV.ptr (AHeap.next h_2) 1) h_42 ?_
   replace hF := obind_some hF; obtain ⟨h_46, e47, hF⟩ := hF
   refine WL.e h_46 (store_row (P := Try.prog) (h := h_42) (t := 9) (v := (strA t44)) (by kernel_rfl) (by kernel_rfl) e47) ?_
   refine WL.n ?_
   refine Go.weaken (l' := [(0, strA t0), (4, (newP h)), (7, (newP h_2)), (8, .int .i64 t8_39)]) (Fr.c (Fr.c (Fr.c (Fr.c Fr.n)))) ?_
   refine n44 ?_
   refine W.s (fun K48 n48 e48 q48 p48 => ?_)
   refine W.r ?_
   refine WL.a (some 46) (.int .i64 t8_39) h_46 ?_
   refine WL.a (some 47) (strA t0) h_46 ?_
   refine WL.a (some 48) (.int .i64 (lenS t0)) h_46 ?_
   replace hF := lett_some hF; obtain ⟨t49, e49, hF⟩ := hF
   refine WL.val (d := (some 49)) (v := .bool t49) (h' := h_46) (by kernel_rfl) (by kernel_rfl) (val_of AV.bool e49 (by kernel_rfl)) ?_
   refine WL.a (some 50) (.bool t49) h_46 ?_
   replace hF := lett_some hF; obtain ⟨j55, e51, hF⟩ := hF
   have J52 : ∀ (t55 : Bool) (h_50 : AHeap), j55 t55 h_50 = some (rR, hR) → WL Try.prog w0 m0 (Func.ntmps Try.f14) (Code.ops (Code.p1 (Code.p2 (Code.p2 (Code.p2 (Code.p1 (Code.p2 (Code.p1 (Code.p1 (Code.p2 (Code.p2 (Code.p2 (codeOf Try.f14))))))))))))) 10 K48 [(0, strA t0), (4, (newP h)), (7, (newP h_2)), (8, .int .i64 t8_39), (55, .bool t55)] [] h_50 := by
    intro t55 h_50 hF
    rw [e51] at hF
    refine WL.n ?_
    refine Go.weaken (l' := [(0, strA t0), (4, (newP h)), (7, (newP h_2)), (8, .int .i64 t8_39), (55, .bool t55)]) (Fr.c (Fr.c (Fr.c (Fr.c (Fr.c Fr.n))))) ?_
    refine n48 ?_
    replace hF := lett_some hF; obtain ⟨k53, e53, hF⟩ := hF
    have J53 : ∀ (t8_54 : Int) (h_55 : AHeap), k53 t8_54 h_55 = some (rR, hR) → Go w0 m0 (Func.ntmps Try.f14) (K11 .normal) [(0, strA t0), (4, (newP h)), (7, (newP h_2)), (8, .int .i64 t8_54)] [] h_55 := by
     intro t8_54 h_55 hF
     rw [e53] at hF
     exact Go.weaken (Fr.c (Fr.c (Fr.c (Fr.c Fr.n)))) (J17 _ _ hF)
    cases t55 with
    | true =>
     replace hF := ifB_t hF
     refine W.t ?_
     refine W.s (fun K56 n56 e56 q56 p56 => ?_)
     refine W.r ?_
     refine WL.a (some 56) (AV.ptr (AHeap.next h_2) 0) h_50 ?_
     replace hF := obind_some hF; obtain ⟨h_57, e58, hF⟩ := hF
     refine WL.e h_57 (store_row (P := Try.prog) (h := h_50) (t := 3) (v := (.int .i64 2)) (by kernel_rfl) (by kernel_rfl) e58) ?_
     refine WL.n ?_
     refine Go.weaken (l' := [(0, strA t0), (4, (newP h)), (7, (newP h_2)), (8, .int .i64 t8_39)]) (Fr.c (Fr.c (Fr.c (Fr.c Fr.n)))) ?_
     refine n56 ?_
     refine W.r ?_
     refine WL.a (some 57) (.int .i64 t8_39) h_57 ?_
     replace hF := lett_some hF; obtain ⟨t58, e59, hF⟩ := hF
     refine WL.val (d := (some 58)) (v := .int .i64 t58) (h' := h_57) (by kernel_rfl) (by kernel_rfl) (val_of (AV.int .i64) e59 (by kernel_rfl)) ?_
     refine WL.a (some 8) (.int .i64 t58) h_57 ?_
     refine WL.n ?_
     refine Go.weaken (l' := [(0, strA t0), (4, (newP h)), (7, (newP h_2)), (8, .int .i64 t58)]) (Fr.c (Fr.c (Fr.c (Fr.c Fr.n)))) ?_
     exact Go.weaken (Fr.c (Fr.c (Fr.c (Fr.c Fr.n)))) (J53 _ _ hF)
    | false =>
     replace hF := ifB_f hF
     refine W.f ?_
     refine W.skip (by kernel_rfl) ?_
     exact Go.weaken (Fr.c (Fr.c (Fr.c (Fr.c Fr.n)))) (J53 _ _ hF)
   cases t49 with
   | true =>
    replace hF := ifB_t hF
    refine WL.a (some 51) (strA t0) h_46 ?_
    refine WL.a (some 52) (.int .i64 t8_39) h_46 ?_
    replace hF := obind_some hF; obtain ⟨t53, e60, hF⟩ := hF
    refine WL.b (some 53) (.int .u8 t53) h_46 (index_str (P := Try.prog) (h := h_46) (t := 9) (k := .i64) (by kernel_rfl) e60) ?_
    replace hF := lett_some hF; obtain ⟨t54, e61, hF⟩ := hF
    refine WL.val (d := (some 54)) (v := .bool t54) (h' := h_46) (by kernel_rfl) (by kernel_rfl) (val_of AV.bool e61 (by kernel_rfl)) ?_
    refine WL.a (some 55) (.bool t54) h_46 ?_
    exact WL.weaken (Fr.c (Fr.c (Fr.c (Fr.c (Fr.c Fr.n))))) (J52 _ _ hF)
   | false =>
    replace hF := ifB_f hF
    refine WL.o (some 51) ?_
    refine WL.o (some 52) ?_
    refine WL.o (some 53) ?_
    refine WL.o (some 54) ?_
    refine WL.a (some 55) (.bool false) h_46 ?_
    exact WL.weaken (Fr.c (Fr.c (Fr.c (Fr.c (Fr.c Fr.n))))) (J52 _ _ hF)
  refine W.blockK (by kernel_rfl) (fun K37 n37 s37 o37 q37 p37 => ?_)
  refine W.loopK (by kernel_rfl) (fun I62 K62 b62 n62 e62 q62 p62 => ?_)
  have L62 : ∀ (m : Nat) (t8_63 : Int) (h_64 : AHeap), ref12_token_L0 call t0 t1 h h_2 k38 m t8_63 h_64 = some (rR, hR) → Go w0 m0 (Func.ntmps Try.f14) I62 [(0, strA t0), (1, .int .i64 t1), (4, (newP h)), (7, (newP h_2)), (8, .int .i64 t8_63)] [] h_64 := by
   intro m
   induction m with
   | zero => intro t8_63 h_64 hF; cases hF
   | succ m ih62 =>
    intro t8_63 h_64 hF
    rw [ref12_token_L0_s] at hF; unfold ref12_token_L0b at hF
    refine b62 ?_
    refine W.s (fun K65 n65 e65 q65 p65 => ?_)
    refine W.s (fun K66 n66 e66 q66 p66 => ?_)
    refine W.r ?_
    refine WL.a (some 22) (.int .i64 t8_63) h_64 ?_
    refine WL.a (some 23) (strA t0) h_64 ?_
    refine WL.a (some 24) (.int .i64 (lenS t0)) h_64 ?_
    replace hF := lett_some hF; obtain ⟨t25, e67, hF⟩ := hF
    refine WL.val (d := (some 25)) (v := .bool t25) (h' := h_64) (by kernel_rfl) (by kernel_rfl) (val_of AV.bool e67 (by kernel_rfl)) ?_
    refine WL.a (some 26) (.bool t25) h_64 ?_
    replace hF := lett_some hF; obtain ⟨j31, e69, hF⟩ := hF
    have J70 : ∀ (t31 : Bool) (h_68 : AHeap), j31 t31 h_68 = some (rR, hR) → WL Try.prog w0 m0 (Func.ntmps Try.f14) (Code.ops (Code.p1 (Code.p1 (Code.p1 (Code.p1 (Code.p1 (Code.p1 (Code.p2 (Code.p1 (Code.p1 (Code.p2 (Code.p2 (Code.p2 (codeOf Try.f14)))))))))))))) 10 K66 [(0, strA t0), (1, .int .i64 t1), (4, (newP h)), (7, (newP h_2)), (8, .int .i64 t8_63), (31, .bool t31)] [] h_68 := by
     intro t31 h_68 hF
     rw [e69] at hF
     refine WL.n ?_
     refine Go.weaken (l' := [(0, strA t0), (1, .int .i64 t1), (4, (newP h)), (7, (newP h_2)), (8, .int .i64 t8_63), (31, .bool t31)]) (Fr.c (Fr.c (Fr.c (Fr.c (Fr.c (Fr.c Fr.n)))))) ?_
     refine n66 ?_
     cases t31 with
     | true =>
      replace hF := ifB_t hF
      refine W.t ?_
      refine W.skip (by kernel_rfl) ?_
      refine n65 ?_
      refine W.blockK (by kernel_rfl) (fun K71 n71 s71 o71 q71 p71 => ?_)
      refine W.s (fun K72 n72 e72 q72 p72 => ?_)
      refine W.s (fun K73 n73 e73 q73 p73 => ?_)
      refine W.r ?_
      refine WL.a (some 32) (.int .i64 t8_63) h_68 ?_
      refine WL.a (some 33) (.int .i64 t1) h_68 ?_
      replace hF := lett_some hF; obtain ⟨t34, e74, hF⟩ := hF
      refine WL.val (d := (some 34)) (v := .int .i64 t34) (h' := h_68) (by kernel_rfl) (by kernel_rfl) (val_of (AV.int .i64) e74 (by kernel_rfl)) ?_
      replace hF := lett_some hF; obtain ⟨t35, e75, hF⟩ := hF
      refine WL.val (d := (some 35)) (v := .bool t35) (h' := h_68) (by kernel_rfl) (by kernel_rfl) (val_of AV.bool e75 (by kernel_rfl)) ?_
      refine WL.n ?_
      refine Go.weaken (l' := [(0, strA t0), (1, .int .i64 t1), (4, (newP h)), (7, (newP h_2)), (8, .int .i64 t8_63), (35, .bool t35)]) (Fr.c (Fr.c (Fr.c (Fr.c (Fr.c (Fr.c Fr.n)))))) ?_
      refine n73 ?_
      cases t35 with
      | true =>
       replace hF := ifB_t hF
       refine W.t ?_
       refine W.s (fun K76 n76 e76 q76 p76 => ?_)
       refine W.r ?_
       replace hF := obind_some hF; obtain ⟨t36, e77, hF⟩ := hF
       refine WL.b (some 36) (.agg t36) h_68 (load_row (P := Try.prog) (h := h_68) (t := 31) (by kernel_rfl) (by kernel_rfl) e77) ?_
       refine WL.a (some 37) (.int .i64 t8_63) h_68 ?_
       replace hF := obind_some hF; obtain ⟨h_78, e79, hF⟩ := hF
       refine WL.e h_78 (store_row (P := Try.prog) (h := h_68) (t := 31) (v := (.agg t36)) (by kernel_rfl) (by kernel_rfl) e79) ?_
       refine WL.a (some 5) (.int .i64 t8_63) h_78 ?_
       refine WL.a (some 6) (.int .i64 3) h_78 ?_
       refine WL.n ?_
       refine Go.weaken (l' := [(4, (newP h)), (5, .int .i64 t8_63), (6, .int .i64 3)]) (Fr.c (Fr.c (Fr.c Fr.n))) ?_
       refine n76 ?_
       refine W.ret (by kernel_rfl) ?_
       refine q72 ?_
       refine q71 ?_
       refine q62 ?_
       refine q37 ?_
       refine q36 ?_
       refine q11 ?_
       refine q10 ?_
       replace hF := obind_some hF; obtain ⟨w4_81, e80, hF⟩ := hF
       obtain ⟨hF, hF2⟩ := ret_inj hF; subst hF; subst hF2
       exact leave_of (rs := [.cell 4 31, .tmp 5, .tmp 6]) (vs := [.agg w4_81, .int .i64 t8_63, .int .i64 3]) (by kernel_rfl) (res_cell (by kernel_rfl) (load_row (P := Try.prog) (h := h_78) (t := 31) (by kernel_rfl) (by kernel_rfl) e80) (res_tmp (by kernel_rfl) (res_tmp (by kernel_rfl) res_nil))) (by kernel_rfl)
      | false =>
       replace hF := ifB_f hF
       refine W.f ?_
       refine W.skip (by kernel_rfl) ?_
       refine n72 ?_
       refine W.r ?_
       refine WL.a (some 38) (.int .i64 t8_63) h_68 ?_
       replace hF := lett_some hF; obtain ⟨t39, e82, hF⟩ := hF
       refine WL.val (d := (some 39)) (v := .int .i64 t39) (h' := h_68) (by kernel_rfl) (by kernel_rfl) (val_of (AV.int .i64) e82 (by kernel_rfl)) ?_
       refine WL.a (some 8) (.int .i64 t39) h_68 ?_
       refine WL.n ?_
       refine Go.weaken (l' := [(0, strA t0), (1, .int .i64 t1), (4, (newP h)), (7, (newP h_2)), (8, .int .i64 t39)]) (Fr.c (Fr.c (Fr.c (Fr.c (Fr.c Fr.n))))) ?_
       refine n71 ?_
       refine n62 ?_
       exact Go.weaken (Fr.c (Fr.c (Fr.c (Fr.c (Fr.c Fr.n))))) (ih62 _ _ hF)
     | false =>
      replace hF := ifB_f hF
      refine W.f ?_
      refine W.exit (by kernel_rfl) ?_
      refine e65 ?_
      refine e62 ?_
      refine s37 (by kernel_rfl) ?_
      exact Go.weaken (Fr.c (Fr.c (Fr.c (Fr.c (Fr.c Fr.n))))) (J38 _ _ hF)
    cases t25 with
    | true =>
     replace hF := ifB_t hF
     refine WL.a (some 27) (strA t0) h_64 ?_
     refine WL.a (some 28) (.int .i64 t8_63) h_64 ?_
     replace hF := obind_some hF; obtain ⟨t29, e83, hF⟩ := hF
     refine WL.b (some 29) (.int .u8 t29) h_64 (index_str (P := Try.prog) (h := h_64) (t := 9) (k := .i64) (by kernel_rfl) e83) ?_
     replace hF := callN_some hF; obtain ⟨r30, h_84, e85, hF⟩ := hF
     replace hF := obind_some hF; obtain ⟨t30, c86, hF⟩ := hF
     have c86 := avBool_some c86
     subst c86
     refine WL.c (hc.ok w0) (some 30) e85 ?_
     refine WL.a (some 31) (.bool t30) h_84 ?_
     exact WL.weaken (Fr.c (Fr.c (Fr.c (Fr.c (Fr.c (Fr.c Fr.n)))))) (J70 _ _ hF)
    | false =>
     replace hF := ifB_f hF
     refine WL.o (some 27) ?_
     refine WL.o (some 28) ?_
     refine WL.o (some 29) ?_
     refine WL.o (some 30) ?_
     refine WL.a (some 31) (.bool false) h_64 ?_
     exact WL.weaken (Fr.c (Fr.c (Fr.c (Fr.c (Fr.c (Fr.c Fr.n)))))) (J70 _ _ hF)
  exact Go.weaken (Fr.c (Fr.c (Fr.c (Fr.c (Fr.c Fr.n))))) (L62 _ _ _ hF)
 | false =>
  replace hF := ifB_f hF
  refine W.f ?_
  refine W.s (fun K87 n87 e87 q87 p87 => ?_)
  refine W.r ?_
  refine WL.a (some 60) (strA t0) h_14 ?_
  refine WL.a (some 61) (.int .i64 t1) h_14 ?_
  replace hF := obind_some hF; obtain ⟨t62, e88, hF⟩ := hF
  refine WL.b (some 62) (.int .u8 t62) h_14 (index_str (P := Try.prog) (h := h_14) (t := 9) (k := .i64) (by kernel_rfl) e88) ?_
  replace hF := lett_some hF; obtain ⟨t63, e89, hF⟩ := hF
  refine WL.val (d := (some 63)) (v := .bool t63) (h' := h_14) (by kernel_rfl) (by kernel_rfl) (val_of AV.bool e89 (by kernel_rfl)) ?_
  refine WL.a (some 59) (.bool t63) h_14 ?_
  refine WL.n ?_
  refine Go.weaken (l' := [(0, strA t0), (1, .int .i64 t1), (4, (newP h)), (7, (newP h_2)), (8, .int .i64 t1), (59, .bool t63)]) (Fr.c (Fr.c (Fr.c (Fr.c (Fr.c (Fr.c Fr.n)))))) ?_
  refine n87 ?_
  replace hF := lett_some hF; obtain ⟨k90, e90, hF⟩ := hF
  have J90 : ∀ (t8_91 : Int) (h_92 : AHeap), k90 t8_91 h_92 = some (rR, hR) → Go w0 m0 (Func.ntmps Try.f14) (K11 .normal) [(0, strA t0), (4, (newP h)), (7, (newP h_2)), (8, .int .i64 t8_91)] [] h_92 := by
   intro t8_91 h_92 hF
   rw [e90] at hF
   exact Go.weaken (Fr.c (Fr.c (Fr.c (Fr.c Fr.n)))) (J17 _ _ hF)
  cases t63 with
  | true =>
   replace hF := ifB_t hF
   refine W.t ?_
   refine W.s (fun K93 n93 e93 q93 p93 => ?_)
   refine W.r ?_
   refine WL.a (some 64) (AV.ptr (AHeap.next h_2) 0) h_14 ?_
   replace hF := obind_some hF; obtain ⟨h_94, e95, hF⟩ := hF
   refine WL.e h_94 (store_row (P := Try.prog) (h := h_14) (t := 3) (v := (.int .i64 3)) (by kernel_rfl) (by kernel_rfl) e95) ?_
   refine WL.n ?_
   refine Go.weaken (l' := [(0, strA t0), (4, (newP h)), (7, (newP h_2)), (8, .int .i64 t1)]) (Fr.c (Fr.c (Fr.c (Fr.c Fr.n)))) ?_
   refine n93 ?_
   refine W.r ?_
   refine WL.a (some 65) (.int .i64 t1) h_94 ?_
   replace hF := lett_some hF; obtain ⟨t66, e96, hF⟩ := hF
   refine WL.val (d := (some 66)) (v := .int .i64 t66) (h' := h_94) (by kernel_rfl) (by kernel_rfl) (val_of (AV.int .i64) e96 (by kernel_rfl)) ?_
   refine WL.a (some 8) (.int .i64 t66) h_94 ?_
   refine WL.n ?_
   refine Go.weaken (l' := [(0, strA t0), (4, (newP h)), (7, (newP h_2)), (8, .int .i64 t66)]) (Fr.c (Fr.c (Fr.c (Fr.c Fr.n)))) ?_
   exact Go.weaken (Fr.c (Fr.c (Fr.c (Fr.c Fr.n)))) (J90 _ _ hF)
  | false =>
   replace hF := ifB_f hF
   refine W.f ?_
   refine W.s (fun K97 n97 e97 q97 p97 => ?_)
   refine W.r ?_
   refine WL.a (some 68) (strA t0) h_14 ?_
   refine WL.a (some 69) (.int .i64 t1) h_14 ?_
   replace hF := obind_some hF; obtain ⟨t70, e98, hF⟩ := hF
   refine WL.b (some 70) (.int .u8 t70) h_14 (index_str (P := Try.prog) (h := h_14) (t := 9) (k := .i64) (by kernel_rfl) e98) ?_
   replace hF := callN_some hF; obtain ⟨r71, h_99, e100, hF⟩ := hF
   replace hF := obind_some hF; obtain ⟨t71, c101, hF⟩ := hF
   have c101 := avBool_some c101
   subst c101
   refine WL.c (hc.ok w0) (some 71) e100 ?_
   refine WL.a (some 67) (.bool t71) h_99 ?_
   refine WL.n ?_
   refine Go.weaken (l' := [(0, strA t0), (1, .int .i64 t1), (4, (newP h)), (7, (newP h_2)), (8, .int .i64 t1), (67, .bool t71)]) (Fr.c (Fr.c (Fr.c (Fr.c (Fr.c (Fr.c Fr.n)))))) ?_
   refine n97 ?_
   replace hF := lett_some hF; obtain ⟨k102, e102, hF⟩ := hF
   have J102 : ∀ (t8_103 : Int) (h_104 : AHeap), k102 t8_103 h_104 = some (rR, hR) → Go w0 m0 (Func.ntmps Try.f14) (K11 .normal) [(0, strA t0), (4, (newP h)), (7, (newP h_2)), (8, .int .i64 t8_103)] [] h_104 := by
    intro t8_103 h_104 hF
    rw [e102] at hF
    exact Go.weaken (Fr.c (Fr.c (Fr.c (Fr.c Fr.n)))) (J90 _ _ hF)
   cases t71 with
   | true =>
    replace hF := ifB_t hF
    refine W.t ?_
    refine W.s (fun K105 n105 e105 q105 p105 => ?_)
    refine W.r ?_
    refine WL.a (some 72) (AV.ptr (AHeap.next h_2) 0) h_99 ?_
    replace hF := obind_some hF; obtain ⟨h_106, e107, hF⟩ := hF
    refine WL.e h_106 (store_row (P := Try.prog) (h := h_99) (t := 3) (v := (.int .i64 3)) (by kernel_rfl) (by kernel_rfl) e107) ?_
    refine WL.n ?_
    refine Go.weaken (l' := [(0, strA t0), (1, .int .i64 t1), (4, (newP h)), (7, (newP h_2)), (8, .int .i64 t1)]) (Fr.c (Fr.c (Fr.c (Fr.c (Fr.c Fr.n))))) ?_
    refine n105 ?_
    replace hF := lett_some hF; obtain ⟨k109, e109, hF⟩ := hF
    have J109 : ∀ (t8_110 : Int) (h_111 : AHeap), k109 t8_110 h_111 = some (rR, hR) → Go w0 m0 (Func.ntmps Try.f14) (K11 .normal) [(0, strA t0), (4, (newP h)), (7, (newP h_2)), (8, .int .i64 t8_110)] [] h_111 := by
     intro t8_110 h_111 hF
     rw [e109] at hF
     exact Go.weaken (Fr.c (Fr.c (Fr.c (Fr.c Fr.n)))) (J102 _ _ hF)
    refine W.blockK (by kernel_rfl) (fun K108 n108 s108 o108 q108 p108 => ?_)
    refine W.loopK (by kernel_rfl) (fun I112 K112 b112 n112 e112 q112 p112 => ?_)
    have L112 : ∀ (m : Nat) (t8_113 : Int) (h_114 : AHeap), ref12_token_L1 call t0 t1 h h_2 k109 m t8_113 h_114 = some (rR, hR) → Go w0 m0 (Func.ntmps Try.f14) I112 [(0, strA t0), (1, .int .i64 t1), (4, (newP h)), (7, (newP h_2)), (8, .int .i64 t8_113)] [] h_114 := by
     intro m
     induction m with
     | zero => intro t8_113 h_114 hF; cases hF
     | succ m ih112 =>
      intro t8_113 h_114 hF
      rw [ref12_token_L1_s] at hF; unfold ref12_token_L1b at hF
      refine b112 ?_
      refine W.s (fun K115 n115 e115 q115 p115 => ?_)
      refine W.s (fun K116 n116 e116 q116 p116 => ?_)
      refine W.r ?_
      refine WL.a (some 73) (.int .i64 t8_113) h_114 ?_
      refine WL.a (some 74) (strA t0) h_114 ?_
      refine WL.a (some 75) (.int .i64 (lenS t0)) h_114 ?_
      replace hF := lett_some hF; obtain ⟨t76, e117, hF⟩ := hF
      refine WL.val (d := (some 76)) (v := .bool t76) (h' := h_114) (by kernel_rfl) (by kernel_rfl) (val_of AV.bool e117 (by kernel_rfl)) ?_
      refine WL.a (some 77) (.bool t76) h_114 ?_
      replace hF := lett_some hF; obtain ⟨j82, e119, hF⟩ := hF
      have J120 : ∀ (t82 : Bool) (h_118 : AHeap), j82 t82 h_118 = some (rR, hR) → WL Try.prog w0 m0 (Func.ntmps Try.f14) (Code.ops (Code.p1 (Code.p1 (Code.p1 (Code.p1 (Code.p2 (Code.p1 (Code.p2 (Code.p2 (Code.p2 (Code.p2 (Code.p2 (Code.p1 (Code.p1 (Code.p2 (Code.p2 (Code.p2 (codeOf Try.f14)))))))))))))))))) 10 K116 [(0, strA t0), (1, .int .i64 t1), (4, (newP h)), (7, (newP h_2)), (8, .int .i64 t8_113), (82, .bool t82)] [] h_118 := by
       intro t82 h_118 hF
       rw [e119] at hF
       refine WL.n ?_
       refine Go.weaken (l' := [(0, strA t0), (1, .int .i64 t1), (4, (newP h)), (7, (newP h_2)), (8, .int .i64 t8_113), (82, .bool t82)]) (Fr.c (Fr.c (Fr.c (Fr.c (Fr.c (Fr.c Fr.n)))))) ?_
       refine n116 ?_
       cases t82 with
       | true =>
        replace hF := ifB_t hF
        refine W.t ?_
        refine W.skip (by kernel_rfl) ?_
        refine n115 ?_
        refine W.blockK (by kernel_rfl) (fun K121 n121 s121 o121 q121 p121 => ?_)
        refine W.s (fun K122 n122 e122 q122 p122 => ?_)
        refine W.s (fun K123 n123 e123 q123 p123 => ?_)
        refine W.r ?_
        refine WL.a (some 83) (.int .i64 t8_113) h_118 ?_
        refine WL.a (some 84) (.int .i64 t1) h_118 ?_
        replace hF := lett_some hF; obtain ⟨t85, e124, hF⟩ := hF
        refine WL.val (d := (some 85)) (v := .int .i64 t85) (h' := h_118) (by kernel_rfl) (by kernel_rfl) (val_of (AV.int .i64) e124 (by kernel_rfl)) ?_
        replace hF := lett_some hF; obtain ⟨t86, e125, hF⟩ := hF
        refine WL.val (d := (some 86)) (v := .bool t86) (h' := h_118) (by kernel_rfl) (by kernel_rfl) (val_of AV.bool e125 (by kernel_rfl)) ?_
        refine WL.n ?_
        refine Go.weaken (l' := [(0, strA t0), (1, .int .i64 t1), (4, (newP h)), (7, (newP h_2)), (8, .int .i64 t8_113), (86, .bool t86)]) (Fr.c (Fr.c (Fr.c (Fr.c (Fr.c (Fr.c Fr.n)))))) ?_
        refine n123 ?_
        cases t86 with
        | true =>
         replace hF := ifB_t hF
         refine W.t ?_
         refine W.s (fun K126 n126 e126 q126 p126 => ?_)
         refine W.r ?_
         replace hF := obind_some hF; obtain ⟨t87, e127, hF⟩ := hF
         refine WL.b (some 87) (.agg t87) h_118 (load_row (P := Try.prog) (h := h_118) (t := 31) (by kernel_rfl) (by kernel_rfl) e127) ?_
         refine WL.a (some 88) (.int .i64 t8_113) h_118 ?_
         replace hF := obind_some hF; obtain ⟨h_128, e129, hF⟩ := hF
         refine WL.e h_128 (store_row (P := Try.prog) (h := h_118) (t := 31) (v := (.agg t87)) (by kernel_rfl) (by kernel_rfl) e129) ?_
         refine WL.a (some 5) (.int .i64 t8_113) h_128 ?_
         refine WL.a (some 6) (.int .i64 3) h_128 ?_
         refine WL.n ?_
         refine Go.weaken (l' := [(4, (newP h)), (5, .int .i64 t8_113), (6, .int .i64 3)]) (Fr.c (Fr.c (Fr.c Fr.n))) ?_
         refine n126 ?_
         refine W.ret (by kernel_rfl) ?_
         refine q122 ?_
         refine q121 ?_
         refine q112 ?_
         refine q108 ?_
         refine q11 ?_
         refine q10 ?_
         replace hF := obind_some hF; obtain ⟨w4_131, e130, hF⟩ := hF
         obtain ⟨hF, hF2⟩ := ret_inj hF; subst hF; subst hF2
         exact leave_of (rs := [.cell 4 31, .tmp 5, .tmp 6]) (vs := [.agg w4_131, .int .i64 t8_113, .int .i64 3]) (by kernel_rfl) (res_cell (by kernel_rfl) (load_row (P := Try.prog) (h := h_128) (t := 31) (by kernel_rfl) (by kernel_rfl) e130) (res_tmp (by kernel_rfl) (res_tmp (by kernel_rfl) res_nil))) (by kernel_rfl)
        | false =>
         replace hF := ifB_f hF
         refine W.f ?_
         refine W.skip (by kernel_rfl) ?_
         refine n122 ?_
         refine W.s (fun K132 n132 e132 q132 p132 => ?_)
         refine W.draw (by kernel_rfl) (hc.ok w0) (plan := [0, 1, 2, 3, 4, 5, 6, 7, 8, 9, 10]) (by kernel_rfl) (by kernel_rfl) (by kernel_rfl) ?_
         refine WD.a 0 (some 89) (AV.ptr (AHeap.next h_2) 2) h_118 ?_
         replace hF := obind_some hF; obtain ⟨v90, e133, hF⟩ := hF
         replace hF := obind_some hF; obtain ⟨t90, c134, hF⟩ := hF
         have c134 := avInt_some c134
         subst c134
         refine WD.b 1 (some 90) (.int .i64 t90) h_118 (load_cell (P := Try.prog) (h := h_118) (t := 3) (by kernel_rfl) e133) ?_
         replace hF := lett_some hF; obtain ⟨t91, e135, hF⟩ := hF
         refine WD.val (d := (some 91)) (v := .int .i64 t91) (h' := h_118) (by kernel_rfl) (by kernel_rfl) (val_of (AV.int .i64) e135 (by kernel_rfl)) (k := 0) (by kernel_rfl) (fun e => absurd e (by decide)) (by decide) ?_
         refine WD.a 0 (some 92) (strA t0) h_118 ?_
         refine WD.a 0 (some 93) (.int .i64 t8_113) h_118 ?_
         replace hF := obind_some hF; obtain ⟨t94, e136, hF⟩ := hF
         refine WD.b 0 (some 94) (.int .u8 t94) h_118 (index_str (P := Try.prog) (h := h_118) (t := 9) (k := .i64) (by kernel_rfl) e136) ?_
         replace hF := lett_some hF; obtain ⟨t95, e137, hF⟩ := hF
         refine WD.val (d := (some 95)) (v := .int .i64 t95) (h' := h_118) (by kernel_rfl) (by kernel_rfl) (val_of (AV.int .i64) e137 (by kernel_rfl)) (k := 0) (by kernel_rfl) (fun e => absurd e (by decide)) (by decide) ?_
         replace hF := lett_some hF; obtain ⟨t96, e138, hF⟩ := hF
         refine WD.val (d := (some 96)) (v := .int .i64 t96) (h' := h_118) (by kernel_rfl) (by kernel_rfl) (val_of (AV.int .i64) e138 (by kernel_rfl)) (k := 0) (by kernel_rfl) (fun e => absurd e (by decide)) (by decide) ?_
         replace hF := lett_some hF; obtain ⟨t97, e139, hF⟩ := hF
         refine WD.val (d := (some 97)) (v := .int .i64 t97) (h' := h_118) (by kernel_rfl) (by kernel_rfl) (val_of (AV.int .i64) e139 (by kernel_rfl)) (k := 0) (by kernel_rfl) (fun e => absurd e (by decide)) (by decide) ?_
         refine WD.a 0 (some 98) (AV.ptr (AHeap.next h_2) 2) h_118 ?_
         replace hF := obind_some hF; obtain ⟨h_140, e141, hF⟩ := hF
         refine WD.eff (h' := h_140) (by kernel_rfl) (by kernel_rfl) (Eq.trans (by kernel_rfl) (store_row (P := Try.prog) (h := h_118) (t := 3) (v := (.int .i64 t97)) (by kernel_rfl) (by kernel_rfl) e141)) (k := 2) (by kernel_rfl) (fun _ => (by kernel_rfl)) (by decide) ?_
         refine WD.nil ?_
         refine Go.weaken (l' := [(0, strA t0), (1, .int .i64 t1), (4, (newP h)), (7, (newP h_2)), (8, .int .i64 t8_113)]) (Fr.c (Fr.c (Fr.c (Fr.c (Fr.c Fr.n))))) ?_
         refine n132 ?_
         refine W.r ?_
         refine WL.a (some 99) (.int .i64 t8_113) h_140 ?_
         replace hF := lett_some hF; obtain ⟨t100, e142, hF⟩ := hF
         refine WL.val (d := (some 100)) (v := .int .i64 t100) (h' := h_140) (by kernel_rfl) (by kernel_rfl) (val_of (AV.int .i64) e142 (by kernel_rfl)) ?_
         refine WL.a (some 8) (.int .i64 t100) h_140 ?_
         refine WL.n ?_
         refine Go.weaken (l' := [(0, strA t0), (1, .int .i64 t1), (4, (newP h)), (7, (newP h_2)), (8, .int .i64 t100)]) (Fr.c (Fr.c (Fr.c (Fr.c (Fr.c Fr.n))))) ?_
         refine n121 ?_
         refine n112 ?_
         exact Go.weaken (Fr.c (Fr.c (Fr.c (Fr.c (Fr.c Fr.n))))) (ih112 _ _ hF)
       | false =>
        replace hF := ifB_f hF
        refine W.f ?_
        refine W.exit (by kernel_rfl) ?_
        refine e115 ?_
        refine e112 ?_
        refine s108 (by kernel_rfl) ?_
        exact Go.weaken (Fr.c (Fr.c (Fr.c (Fr.c Fr.n)))) (J109 _ _ hF)
      cases t76 with
      | true =>
       replace hF := ifB_t hF
       refine WL.a (some 78) (strA t0) h_114 ?_
       refine WL.a (some 79) (.int .i64 t8_113) h_114 ?_
       replace hF := obind_some hF; obtain ⟨t80, e143, hF⟩ := hF
       refine WL.b (some 80) (.int .u8 t80) h_114 (index_str (P := Try.prog) (h := h_114) (t := 9) (k := .i64) (by kernel_rfl) e143) ?_
       replace hF := callN_some hF; obtain ⟨r81, h_144, e145, hF⟩ := hF
       replace hF := obind_some hF; obtain ⟨t81, c146, hF⟩ := hF
       have c146 := avBool_some c146
       subst c146
       refine WL.c (hc.ok w0) (some 81) e145 ?_
       refine WL.a (some 82) (.bool t81) h_144 ?_
       exact WL.weaken (Fr.c (Fr.c (Fr.c (Fr.c (Fr.c (Fr.c Fr.n)))))) (J120 _ _ hF)
      | false =>
       replace hF := ifB_f hF
       refine WL.o (some 78) ?_
       refine WL.o (some 79) ?_
       refine WL.o (some 80) ?_
       refine WL.o (some 81) ?_
       refine WL.a (some 82) (.bool false) h_114 ?_
       exact WL.weaken (Fr.c (Fr.c (Fr.c (Fr.c (Fr.c (Fr.c Fr.n)))))) (J120 _ _ hF)
    exact Go.weaken (Fr.c (Fr.c (Fr.c (Fr.c (Fr.c Fr.n))))) (L112 _ _ _ hF)
   | false =>
    replace hF := ifB_f hF
    refine W.f ?_
    refine W.s (fun K147 n147 e147 q147 p147 => ?_)
    refine W.r ?_
    refine WL.a (some 102) (strA t0) h_99 ?_
    refine WL.a (some 103) (.int .i64 t1) h_99 ?_
    replace hF := obind_some hF; obtain ⟨t104, e148, hF⟩ := hF
    refine WL.b (some 104) (.int .u8 t104) h_99 (index_str (P := Try.prog) (h := h_99) (t := 9) (k := .i64) (by kernel_rfl) e148) ?_
    replace hF := lett_some hF; obtain ⟨t105, e149, hF⟩ := hF
    refine WL.val (d := (some 105)) (v := .bool t105) (h' := h_99) (by kernel_rfl) (by kernel_rfl) (val_of AV.bool e149 (by kernel_rfl)) ?_
    refine WL.a (some 101) (.bool t105) h_99 ?_
    refine WL.n ?_
    refine Go.weaken (l' := [(0, strA t0), (1, .int .i64 t1), (4, (newP h)), (7, (newP h_2)), (8, .int .i64 t1), (101, .bool t105)]) (Fr.c (Fr.c (Fr.c (Fr.c (Fr.c (Fr.c Fr.n)))))) ?_
    refine n147 ?_
    replace hF := lett_some hF; obtain ⟨k150, e150, hF⟩ := hF
    have J150 : ∀ (t8_151 : Int) (h_152 : AHeap), k150 t8_151 h_152 = some (rR, hR) → Go w0 m0 (Func.ntmps Try.f14) (K11 .normal) [(0, strA t0), (4, (newP h)), (7, (newP h_2)), (8, .int .i64 t8_151)] [] h_152 := by
     intro t8_151 h_152 hF
     rw [e150] at hF
     exact Go.weaken (Fr.c (Fr.c (Fr.c (Fr.c Fr.n)))) (J102 _ _ hF)
    cases t105 with
    | true =>
     replace hF := ifB_t hF
     refine W.t ?_
     refine W.s (fun K153 n153 e153 q153 p153 => ?_)
     refine W.r ?_
     refine WL.a (some 107) (strA t0) h_99 ?_
     refine WL.a (some 108) (.int .i64 t1) h_99 ?_
     replace hF := obind_some hF; obtain ⟨t109, e154, hF⟩ := hF
     refine WL.b (some 109) (strA t109) h_99 (slice_str (P := Try.prog) (h := h_99) (t := 9) (A := (some (.int .i64 t1))) (B := none) (by kernel_rfl) (.inl ⟨_, rfl⟩) (.inr ⟨rfl, rfl⟩) e154) ?_
     replace hF := callN_some hF; obtain ⟨r110, h_155, e156, hF⟩ := hF
     refine WL.c (hc.ok w0) (some 110) e156 ?_
     refine WL.a (some 106) r110 h_155 ?_
     replace hF := obind_some hF; obtain ⟨v111, e157, hF⟩ := hF
     replace hF := obind_some hF; obtain ⟨t111, c158, hF⟩ := hF
     have c158 := avStr_some c158
     subst c158
     refine WL.b (some 111) (strA t111) h_155 (extract_tup (h := h_155) e157) ?_
     replace hF := obind_some hF; obtain ⟨v112, e159, hF⟩ := hF
     replace hF := obind_some hF; obtain ⟨t112, c160, hF⟩ := hF
     have c160 := avInt_some c160
     subst c160
     refine WL.b (some 112) (.int .i64 t112) h_155 (extract_tup (h := h_155) e159) ?_
     replace hF := obind_some hF; obtain ⟨v113, e161, hF⟩ := hF
     replace hF := obind_some hF; obtain ⟨t113, c162, hF⟩ := hF
     have c162 := avAgg_some c162
     subst c162
     refine WL.b (some 113) (.agg t113) h_155 (extract_tup (h := h_155) e161) ?_
     replace hF := lett_some hF; obtain ⟨h_163, e164, hF⟩ := hF
     refine WL.val (d := (some 11)) (v := (newP h_155)) (h' := h_163) (by kernel_rfl) (by kernel_rfl) (val_ofH e164 (by kernel_rfl)) ?_
     refine WL.a (some 9) (strA t111) h_163 ?_
     refine WL.a (some 10) (.int .i64 t112) h_163 ?_
     replace hF := obind_some hF; obtain ⟨h_165, e166, hF⟩ := hF
     refine WL.e h_165 (store_row (P := Try.prog) (h := h_163) (t := 27) (v := (.agg t113)) (by kernel_rfl) (by kernel_rfl) e166) ?_
     refine WL.n ?_
     refine Go.weaken (l' := [(0, strA t0), (1, .int .i64 t1), (4, (newP h)), (7, (newP h_2)), (9, strA t111), (10, .int .i64 t112), (11, (newP h_155))]) (Fr.c (Fr.c (Fr.c (Fr.c (Fr.c (Fr.c (Fr.c Fr.n))))))) ?_
     refine n153 ?_
     refine W.s (fun K167 n167 e167 q167 p167 => ?_)
     refine W.s (fun K168 n168 e168 q168 p168 => ?_)
     refine W.r ?_
     refine WL.a (some 114) (AV.ptr (AHeap.next h_155) 0) h_165 ?_
     replace hF := obind_some hF; obtain ⟨v115, e169, hF⟩ := hF
     replace hF := obind_some hF; obtain ⟨t115, c170, hF⟩ := hF
     have c170 := avInt_some c170
     subst c170
     refine WL.b (some 115) (.int .i64 t115) h_165 (load_cell (P := Try.prog) (h := h_165) (t := 25) (by kernel_rfl) e169) ?_
     replace hF := lett_some hF; obtain ⟨t116, e171, hF⟩ := hF
     refine WL.val (d := (some 116)) (v := .bool t116) (h' := h_165) (by kernel_rfl) (by kernel_rfl) (val_of AV.bool e171 (by kernel_rfl)) ?_
     refine WL.n ?_
     refine Go.weaken (l' := [(0, strA t0), (1, .int .i64 t1), (4, (newP h)), (7, (newP h_2)), (9, strA t111), (10, .int .i64 t112), (11, (newP h_155)), (116, .bool t116)]) (Fr.c (Fr.c (Fr.c (Fr.c (Fr.c (Fr.c (Fr.c (Fr.c Fr.n)))))))) ?_
     refine n168 ?_
     cases t116 with
     | true =>
      replace hF := ifB_t hF
      refine W.t ?_
      refine W.s (fun K172 n172 e172 q172 p172 => ?_)
      refine W.draw (by kernel_rfl) (hc.ok w0) (plan := [0, 1, 2, 3, 4, 5, 6, 7, 8, 9]) (by kernel_rfl) (by kernel_rfl) (by kernel_rfl) ?_
      replace hF := obind_some hF; obtain ⟨t117, e173, hF⟩ := hF
      refine WD.b 1 (some 117) (.agg t117) h_165 (load_row (P := Try.prog) (h := h_165) (t := 31) (by kernel_rfl) (by kernel_rfl) e173) ?_
      refine WD.a 0 (some 118) (.int .i64 t1) h_165 ?_
      refine WD.a 0 (some 119) (AV.ptr (AHeap.next h_155) 1) h_165 ?_
      replace hF := obind_some hF; obtain ⟨v120, e174, hF⟩ := hF
      replace hF := obind_some hF; obtain ⟨t120, c175, hF⟩ := hF
      have c175 := avInt_some c175
      subst c175
      refine WD.b 1 (some 120) (.int .i64 t120) h_165 (load_cell (P := Try.prog) (h := h_165) (t := 3) (by kernel_rfl) e174) ?_
      replace hF := lett_some hF; obtain ⟨t121, e176, hF⟩ := hF
      refine WD.val (d := (some 121)) (v := .int .i64 t121) (h' := h_165) (by kernel_rfl) (by kernel_rfl) (val_of (AV.int .i64) e176 (by kernel_rfl)) (k := 0) (by kernel_rfl) (fun e => absurd e (by decide)) (by decide) ?_
      refine WD.a 0 (some 122) (AV.ptr (AHeap.next h_155) 0) h_165 ?_
      replace hF := obind_some hF; obtain ⟨v123, e177, hF⟩ := hF
      replace hF := obind_some hF; obtain ⟨t123, c178, hF⟩ := hF
      have c178 := avInt_some c178
      subst c178
      refine WD.b 1 (some 123) (.int .i64 t123) h_165 (load_cell (P := Try.prog) (h := h_165) (t := 25) (by kernel_rfl) e177) ?_
      replace hF := obind_some hF; obtain ⟨h_179, e180, hF⟩ := hF
      replace hF := chk_some hF; obtain ⟨k181, hF⟩ := hF
      refine WD.eff (h' := h_179) (by kernel_rfl) (by kernel_rfl) (Eq.trans (by kernel_rfl) (store_row (P := Try.prog) (h := h_165) (t := 31) (v := (.agg t117)) (by kernel_rfl) (by kernel_rfl) e180)) (k := 2) (by kernel_rfl) (fun _ => (Eq.trans (by kernel_rfl) k181)) (by decide) ?_
      refine WD.a 0 (some 5) (.int .i64 t121) h_179 ?_
      refine WD.a 0 (some 6) (.int .i64 t123) h_179 ?_
      refine WD.nil ?_
      refine Go.weaken (l' := [(4, (newP h)), (5, .int .i64 t121), (6, .int .i64 t123)]) (Fr.c (Fr.c (Fr.c Fr.n))) ?_
      refine n172 ?_
      refine W.ret (by kernel_rfl) ?_
      refine q167 ?_
      refine q11 ?_
      refine q10 ?_
      replace hF := obind_some hF; obtain ⟨w4_183, e182, hF⟩ := hF
      obtain ⟨hF, hF2⟩ := ret_inj hF; subst hF; subst hF2
      exact leave_of (rs := [.cell 4 31, .tmp 5, .tmp 6]) (vs := [.agg w4_183, .int .i64 t121, .int .i64 t123]) (by kernel_rfl) (res_cell (by kernel_rfl) (load_row (P := Try.prog) (h := h_179) (t := 31) (by kernel_rfl) (by kernel_rfl) e182) (res_tmp (by kernel_rfl) (res_tmp (by kernel_rfl) res_nil))) (by kernel_rfl)
     | false =>
      replace hF := ifB_f hF
      refine W.f ?_
      refine W.skip (by kernel_rfl) ?_
      refine n167 ?_
      refine W.s (fun K184 n184 e184 q184 p184 => ?_)
      refine W.r ?_
      refine WL.a (some 124) (AV.ptr (AHeap.next h_2) 0) h_165 ?_
      replace hF := obind_some hF; obtain ⟨h_185, e186, hF⟩ := hF
      refine WL.e h_185 (store_row (P := Try.prog) (h := h_165) (t := 3) (v := (.int .i64 4)) (by kernel_rfl) (by kernel_rfl) e186) ?_
      refine WL.n ?_
      refine Go.weaken (l' := [(0, strA t0), (1, .int .i64 t1), (4, (newP h)), (7, (newP h_2)), (9, strA t111), (10, .int .i64 t112)]) (Fr.c (Fr.c (Fr.c (Fr.c (Fr.c (Fr.c Fr.n)))))) ?_
      refine n184 ?_
      refine W.s (fun K187 n187 e187 q187 p187 => ?_)
      refine W.r ?_
      refine WL.a (some 125) (strA t111) h_185 ?_
      refine WL.a (some 126) (AV.ptr (AHeap.next h_2) 1) h_185 ?_
      replace hF := obind_some hF; obtain ⟨h_188, e189, hF⟩ := hF
      refine WL.e h_188 (store_row (P := Try.prog) (h := h_185) (t := 9) (v := (strA t111)) (by kernel_rfl) (by kernel_rfl) e189) ?_
      refine WL.n ?_
      refine Go.weaken (l' := [(0, strA t0), (1, .int .i64 t1), (4, (newP h)), (7, (newP h_2)), (10, .int .i64 t112)]) (Fr.c (Fr.c (Fr.c (Fr.c (Fr.c Fr.n))))) ?_
      refine n187 ?_
      refine W.r ?_
      refine WL.a (some 127) (.int .i64 t1) h_188 ?_
      refine WL.a (some 128) (.int .i64 t112) h_188 ?_
      replace hF := lett_some hF; obtain ⟨t129, e190, hF⟩ := hF
      refine WL.val (d := (some 129)) (v := .int .i64 t129) (h' := h_188) (by kernel_rfl) (by kernel_rfl) (val_of (AV.int .i64) e190 (by kernel_rfl)) ?_
      refine WL.a (some 8) (.int .i64 t129) h_188 ?_
      refine WL.n ?_
      refine Go.weaken (l' := [(0, strA t0), (4, (newP h)), (7, (newP h_2)), (8, .int .i64 t129)]) (Fr.c (Fr.c (Fr.c (Fr.c Fr.n)))) ?_
      exact Go.weaken (Fr.c (Fr.c (Fr.c (Fr.c Fr.n)))) (J150 _ _ hF)
    | false =>
     replace hF := ifB_f hF
     refine W.f ?_
     refine W.s (fun K191 n191 e191 q191 p191 => ?_)
     refine W.r ?_
     refine WL.a (some 131) (strA t0) h_99 ?_
     refine WL.a (some 132) (.int .i64 t1) h_99 ?_
     replace hF := obind_some hF; obtain ⟨t133, e192, hF⟩ := hF
     refine WL.b (some 133) (.int .u8 t133) h_99 (index_str (P := Try.prog) (h := h_99) (t := 9) (k := .i64) (by kernel_rfl) e192) ?_
     replace hF := lett_some hF; obtain ⟨t134, e193, hF⟩ := hF
     refine WL.val (d := (some 134)) (v := .bool t134) (h' := h_99) (by kernel_rfl) (by kernel_rfl) (val_of AV.bool e193 (by kernel_rfl)) ?_
     refine WL.a (some 135) (.bool t134) h_99 ?_
     replace hF := lett_some hF; obtain ⟨j140, e195, hF⟩ := hF
     have J196 : ∀ (t140 : Bool) (h_194 : AHeap), j140 t140 h_194 = some (rR, hR) → WL Try.prog w0 m0 (Func.ntmps Try.f14) (Code.ops (Code.p1 (Code.p2 (Code.p2 (Code.p2 (Code.p2 (Code.p2 (Code.p2 (Code.p2 (Code.p2 (Code.p1 (Code.p1 (Code.p2 (Code.p2 (Code.p2 (codeOf Try.f14)))))))))))))))) 10 K191 [(0, strA t0), (1, .int .i64 t1), (4, (newP h)), (7, (newP h_2)), (8, .int .i64 t1), (140, .bool t140)] [] h_194 := by
      intro t140 h_194 hF
      rw [e195] at hF
      refine WL.a (some 141) (.bool t140) h_194 ?_
      replace hF := lett_some hF; obtain ⟨j146, e198, hF⟩ := hF
      have J199 : ∀ (t146 : Bool) (h_197 : AHeap), j146 t146 h_197 = some (rR, hR) → WL Try.prog w0 m0 (Func.ntmps Try.f14) (Code.ops (Code.p1 (Code.p2 (Code.p2 (Code.p2 (Code.p2 (Code.p2 (Code.p2 (Code.p2 (Code.p2 (Code.p1 (Code.p1 (Code.p2 (Code.p2 (Code.p2 (codeOf Try.f14)))))))))))))))) 16 K191 [(0, strA t0), (1, .int .i64 t1), (4, (newP h)), (7, (newP h_2)), (8, .int .i64 t1), (146, .bool t146)] [] h_197 := by
       intro t146 h_197 hF
       rw [e198] at hF
       refine WL.a (some 130) (.bool t146) h_197 ?_
       refine WL.n ?_
       refine Go.weaken (l' := [(0, strA t0), (1, .int .i64 t1), (4, (newP h)), (7, (newP h_2)), (8, .int .i64 t1), (130, .bool t146)]) (Fr.c (Fr.c (Fr.c (Fr.c (Fr.c (Fr.c Fr.n)))))) ?_
       refine n191 ?_
       cases t146 with
       | true =>
        replace hF := ifB_t hF
        refine W.t ?_
        refine W.s (fun K200 n200 e200 q200 p200 => ?_)
        refine W.r ?_
        refine WL.a (some 147) (AV.ptr (AHeap.next h_2) 0) h_197 ?_
        replace hF := obind_some hF; obtain ⟨h_201, e202, hF⟩ := hF
        refine WL.e h_201 (store_row (P := Try.prog) (h := h_197) (t := 3) (v := (.int .i64 5)) (by kernel_rfl) (by kernel_rfl) e202) ?_
        refine WL.n ?_
        refine Go.weaken (l' := [(0, strA t0), (1, .int .i64 t1), (4, (newP h)), (7, (newP h_2)), (8, .int .i64 t1)]) (Fr.c (Fr.c (Fr.c (Fr.c (Fr.c Fr.n))))) ?_
        refine n200 ?_
        refine W.s (fun K203 n203 e203 q203 p203 => ?_)
        refine W.r ?_
        refine WL.a (some 148) (strA t0) h_201 ?_
        refine WL.a (some 149) (.int .i64 t1) h_201 ?_
        refine WL.a (some 150) (.int .i64 t1) h_201 ?_
        replace hF := lett_some hF; obtain ⟨t151, e204, hF⟩ := hF
        refine WL.val (d := (some 151)) (v := .int .i64 t151) (h' := h_201) (by kernel_rfl) (by kernel_rfl) (val_of (AV.int .i64) e204 (by kernel_rfl)) ?_
        replace hF := obind_some hF; obtain ⟨t152, e205, hF⟩ := hF
        refine WL.b (some 152) (strA t152) h_201 (slice_str (P := Try.prog) (h := h_201) (t := 9) (A := (some (.int .i64 t1))) (B := (some (.int .i64 t151))) (by kernel_rfl) (.inl ⟨_, rfl⟩) (.inl ⟨_, rfl⟩) e205) ?_
        refine WL.a (some 153) (AV.ptr (AHeap.next h_2) 1) h_201 ?_
        replace hF := obind_some hF; obtain ⟨h_206, e207, hF⟩ := hF
        refine WL.e h_206 (store_row (P := Try.prog) (h := h_201) (t := 9) (v := (strA t152)) (by kernel_rfl) (by kernel_rfl) e207) ?_
        refine WL.n ?_
        refine Go.weaken (l' := [(0, strA t0), (4, (newP h)), (7, (newP h_2)), (8, .int .i64 t1)]) (Fr.c (Fr.c (Fr.c (Fr.c Fr.n)))) ?_
        refine n203 ?_
        refine W.r ?_
        refine WL.a (some 154) (.int .i64 t1) h_206 ?_
        replace hF := lett_some hF; obtain ⟨t155, e208, hF⟩ := hF
        refine WL.val (d := (some 155)) (v := .int .i64 t155) (h' := h_206) (by kernel_rfl) (by kernel_rfl) (val_of (AV.int .i64) e208 (by kernel_rfl)) ?_
        refine WL.a (some 8) (.int .i64 t155) h_206 ?_
        refine WL.n ?_
        refine Go.weaken (l' := [(0, strA t0), (4, (newP h)), (7, (newP h_2)), (8, .int .i64 t155)]) (Fr.c (Fr.c (Fr.c (Fr.c Fr.n)))) ?_
        exact Go.weaken (Fr.c (Fr.c (Fr.c (Fr.c Fr.n)))) (J150 _ _ hF)
       | false =>
        replace hF := ifB_f hF
        refine W.f ?_
        refine W.s (fun K209 n209 e209 q209 p209 => ?_)
        refine W.r ?_
        replace hF := obind_some hF; obtain ⟨t15, e210, hF⟩ := hF
        refine WL.b (some 15) (.agg t15) h_197 (load_row (P := Try.prog) (h := h_197) (t := 31) (by kernel_rfl) (by kernel_rfl) e210) ?_
        refine WL.a (some 16) (.int .i64 t1) h_197 ?_
        replace hF := obind_some hF; obtain ⟨h_211, e212, hF⟩ := hF
        refine WL.e h_211 (store_row (P := Try.prog) (h := h_197) (t := 31) (v := (.agg t15)) (by kernel_rfl) (by kernel_rfl) e212) ?_
        refine WL.a (some 5) (.int .i64 t1) h_211 ?_
        refine WL.a (some 6) (.int .i64 6) h_211 ?_
        refine WL.n ?_
        refine Go.weaken (l' := [(4, (newP h)), (5, .int .i64 t1), (6, .int .i64 6)]) (Fr.c (Fr.c (Fr.c Fr.n))) ?_
        refine n209 ?_
        refine W.ret (by kernel_rfl) ?_
        refine q11 ?_
        refine q10 ?_
        replace hF := obind_some hF; obtain ⟨w4_214, e213, hF⟩ := hF
        obtain ⟨hF, hF2⟩ := ret_inj hF; subst hF; subst hF2
        exact leave_of (rs := [.cell 4 31, .tmp 5, .tmp 6]) (vs := [.agg w4_214, .int .i64 t1, .int .i64 6]) (by kernel_rfl) (res_cell (by kernel_rfl) (load_row (P := Try.prog) (h := h_211) (t := 31) (by kernel_rfl) (by kernel_rfl) e213) (res_tmp (by kernel_rfl) (res_tmp (by kernel_rfl) res_nil))) (by kernel_rfl)
      cases t140 with
      | true =>
       replace hF := ifB_t hF
       refine WL.o (some 142) ?_
       refine WL.o (some 143) ?_
       refine WL.o (some 144) ?_
       refine WL.o (some 145) ?_
       refine WL.a (some 146) (.bool true) h_194 ?_
       exact WL.weaken (Fr.c (Fr.c (Fr.c (Fr.c (Fr.c (Fr.c Fr.n)))))) (J199 _ _ hF)
      | false =>
       replace hF := ifB_f hF
       refine WL.a (some 142) (strA t0) h_194 ?_
       refine WL.a (some 143) (.int .i64 t1) h_194 ?_
       replace hF := obind_some hF; obtain ⟨t144, e215, hF⟩ := hF
       refine WL.b (some 144) (.int .u8 t144) h_194 (index_str (P := Try.prog) (h := h_194) (t := 9) (k := .i64) (by kernel_rfl) e215) ?_
       replace hF := lett_some hF; obtain ⟨t145, e216, hF⟩ := hF
       refine WL.val (d := (some 145)) (v := .bool t145) (h' := h_194) (by kernel_rfl) (by kernel_rfl) (val_of AV.bool e216 (by kernel_rfl)) ?_
       refine WL.a (some 146) (.bool t145) h_194 ?_
       exact WL.weaken (Fr.c (Fr.c (Fr.c (Fr.c (Fr.c (Fr.c Fr.n)))))) (J199 _ _ hF)
     cases t134 with
     | true =>
      replace hF := ifB_t hF
      refine WL.o (some 136) ?_
      refine WL.o (some 137) ?_
      refine WL.o (some 138) ?_
      refine WL.o (some 139) ?_
      refine WL.a (some 140) (.bool true) h_99 ?_
      exact WL.weaken (Fr.c (Fr.c (Fr.c (Fr.c (Fr.c (Fr.c Fr.n)))))) (J196 _ _ hF)
     | false =>
      replace hF := ifB_f hF
      refine WL.a (some 136) (strA t0) h_99 ?_
      refine WL.a (some 137) (.int .i64 t1) h_99 ?_
      replace hF := obind_some hF; obtain ⟨t138, e217, hF⟩ := hF
      refine WL.b (some 138) (.int .u8 t138) h_99 (index_str (P := Try.prog) (h := h_99) (t := 9) (k := .i64) (by kernel_rfl) e217) ?_
      replace hF := lett_some hF; obtain ⟨t139, e218, hF⟩ := hF
      refine WL.val (d := (some 139)) (v := .bool t139) (h' := h_99) (by kernel_rfl) (by kernel_rfl) (val_of AV.bool e218 (by kernel_rfl)) ?_
      refine WL.a (some 140) (.bool t139) h_99 ?_
      exact WL.weaken (Fr.c (Fr.c (Fr.c (Fr.c (Fr.c (Fr.c Fr.n)))))) (J196 _ _ hF)
noncomputable def ref12_token_fn (call : CallF) (n : Nat) : FnT := fun args h => match args with
 | [x0, x1] => obind (avStr x0) fun t0 => obind (avInt .i64 x1) fun t1 => ref12_token call n t0 t1 h
 | _ => none
theorem ref12_token_holds {call : CallF} (hc : SaysAll Try.prog call) (n : Nat) : Holds Try.prog 14 (ref12_token_fn call n) := by
 intro args h r h2 e
 unfold ref12_token_fn at e
 split at e
 ·replace e := obind_some e; obtain ⟨t0, c0, e⟩ := e; have c0 := avStr_some c0; subst c0
  replace e := obind_some e; obtain ⟨t1, c1, e⟩ := e; have c1 := avInt_some c1; subst c1
  exact ref12_token_ok hc e
 ·cases e

noncomputable def ref12_first (_ : CallF) (_ : Nat) (t0 : Int) (h : AHeap) : R :=
 lett (decide (t0 ≥ 97)) fun (t4 : Bool) =>
 lett (fun (t8 : Bool) (h_4 : AHeap) =>
  some (.ret (.bool t8), h_4)) fun j8 =>
 ifB t4
 (
  lett (decide (t0 ≤ 122)) fun (t7 : Bool) =>
  j8 t7 h)
 (
  j8 false h)
set_option maxHeartbeats 4000000 in
set_option maxRecDepth 20000 in
theorem ref12_first_ok {call : CallF} (_ : SaysAll Try.prog call) {n : Nat} {t0 : Int} {h : AHeap} {rR : ARes} {hR : AHeap} (hF : ref12_first call n t0 h = some (rR, hR)) : Says Try.prog 18 [.int .u8 t0] h rR hR := by
 unfold ref12_first at hF
 refine says_of (fn := Try.f18) Try.func18 (c := codeOf Try.f18) (by kernel_rfl) (by kernel_rfl) (fun w0 m0 => ?_)
 refine W.weaken (l' := [(0, .int .u8 t0)]) (Fr.c Fr.n) ?_
 refine W.s (fun K1 n1 e1 q1 p1 => ?_)
 refine W.r ?_
 refine WL.a (some 2) (.bool false) h ?_
 refine WL.n ?_
 refine Go.weaken (l' := [(0, .int .u8 t0)]) (Fr.c Fr.n) ?_
 refine n1 ?_
 refine W.s (fun K2 n2 e2 q2 p2 => ?_)
 refine W.r ?_
 refine WL.a (some 3) (.int .u8 t0) h ?_
 replace hF := lett_some hF; obtain ⟨t4, e3, hF⟩ := hF
 refine WL.val (d := (some 4)) (v := .bool t4) (h' := h) (by kernel_rfl) (by kernel_rfl) (val_of AV.bool e3 (by kernel_rfl)) ?_
 refine WL.a (some 5) (.bool t4) h ?_
 replace hF := lett_some hF; obtain ⟨j8, e5, hF⟩ := hF
 have J6 : ∀ (t8 : Bool) (h_4 : AHeap), j8 t8 h_4 = some (rR, hR) → WL Try.prog w0 m0 (Func.ntmps Try.f18) (Code.ops (Code.p1 (Code.p2 (codeOf Try.f18)))) 6 K2 [(8, .bool t8)] [] h_4 := by
  intro t8 h_4 hF
  rw [e5] at hF
  refine WL.a (some 2) (.bool t8) h_4 ?_
  refine WL.n ?_
  refine Go.weaken (l' := [(2, .bool t8)]) (Fr.c Fr.n) ?_
  refine n2 ?_
  refine W.ret (by kernel_rfl) ?_
  obtain ⟨hF, hF2⟩ := ret_inj hF; subst hF; subst hF2
  exact leave_of (rs := [.tmp 2]) (vs := [.bool t8]) (by kernel_rfl) (res_tmp (by kernel_rfl) res_nil) (by kernel_rfl)
 cases t4 with
 | true =>
  replace hF := ifB_t hF
  refine WL.a (some 6) (.int .u8 t0) h ?_
  replace hF := lett_some hF; obtain ⟨t7, e7, hF⟩ := hF
  refine WL.val (d := (some 7)) (v := .bool t7) (h' := h) (by kernel_rfl) (by kernel_rfl) (val_of AV.bool e7 (by kernel_rfl)) ?_
  refine WL.a (some 8) (.bool t7) h ?_
  exact WL.weaken (Fr.c Fr.n) (J6 _ _ hF)
 | false =>
  replace hF := ifB_f hF
  refine WL.o (some 6) ?_
  refine WL.o (some 7) ?_
  refine WL.a (some 8) (.bool false) h ?_
  exact WL.weaken (Fr.c Fr.n) (J6 _ _ hF)
noncomputable def ref12_first_fn (call : CallF) (n : Nat) : FnT := fun args h => match args with
 | [x0] => obind (avInt .u8 x0) fun t0 => ref12_first call n t0 h
 | _ => none
theorem ref12_first_holds {call : CallF} (hc : SaysAll Try.prog call) (n : Nat) : Holds Try.prog 18 (ref12_first_fn call n) := by
 intro args h r h2 e
 unfold ref12_first_fn at e
 split at e
 ·replace e := obind_some e; obtain ⟨t0, c0, e⟩ := e; have c0 := avInt_some c0; subst c0
  exact ref12_first_ok hc e
 ·cases e

noncomputable def ref12_In (call : CallF) (_ : Nat) (t0 : Int) (h : AHeap) : R :=
 callN (call 18 [.int .u8 t0] h) fun r4 h_3 =>
 obind (avBool r4) fun t4 =>
 lett (fun (t8 : Bool) (h_6 : AHeap) =>
  lett (fun (t12 : Bool) (h_9 : AHeap) =>
   lett (fun (t16 : Bool) (h_12 : AHeap) =>
    some (.ret (.bool t16), h_12)) fun j16 =>
   ifB t12
   (
    j16 true h_9)
   (
    lett ((t0 : Int) == 45) fun (t15 : Bool) =>
    j16 t15 h_9)) fun j12 =>
  ifB t8
  (
   j12 true h_6)
  (
   lett ((t0 : Int) == 95) fun (t11 : Bool) =>
   j12 t11 h_6)) fun j8 =>
 ifB t4
 (
  j8 true h_3)
 (
  callN (call 24 [.int .u8 t0] h_3) fun r7 h_17 =>
  obind (avBool r7) fun t7 =>
  j8 t7 h_17)
set_option maxHeartbeats 4000000 in
set_option maxRecDepth 20000 in
theorem ref12_In_ok {call : CallF} (hc : SaysAll Try.prog call) {n : Nat} {t0 : Int} {h : AHeap} {rR : ARes} {hR : AHeap} (hF : ref12_In call n t0 h = some (rR, hR)) : Says Try.prog 19 [.int .u8 t0] h rR hR := by
 unfold ref12_In at hF
 refine says_of (fn := Try.f19) Try.func19 (c := codeOf Try.f19) (by kernel_rfl) (by kernel_rfl) (fun w0 m0 => ?_)
 refine W.weaken (l' := [(0, .int .u8 t0)]) (Fr.c Fr.n) ?_
 refine W.s (fun K1 n1 e1 q1 p1 => ?_)
 refine W.r ?_
 refine WL.a (some 2) (.bool false) h ?_
 refine WL.n ?_
 refine Go.weaken (l' := [(0, .int .u8 t0)]) (Fr.c Fr.n) ?_
 refine n1 ?_
 refine W.s (fun K2 n2 e2 q2 p2 => ?_)
 refine W.r ?_
 refine WL.a (some 3) (.int .u8 t0) h ?_
 replace hF := callN_some hF; obtain ⟨r4, h_3, e4, hF⟩ := hF
 replace hF := obind_some hF; obtain ⟨t4, c5, hF⟩ := hF
 have c5 := avBool_some c5
 subst c5
 refine WL.c (hc.ok w0) (some 4) e4 ?_
 refine WL.a (some 5) (.bool t4) h_3 ?_
 replace hF := lett_some hF; obtain ⟨j8, e7, hF⟩ := hF
 have J8 : ∀ (t8 : Bool) (h_6 : AHeap), j8 t8 h_6 = some (rR, hR) → WL Try.prog w0 m0 (Func.ntmps Try.f19) (Code.ops (Code.p1 (Code.p2 (codeOf Try.f19)))) 6 K2 [(0, .int .u8 t0), (8, .bool t8)] [] h_6 := by
  intro t8 h_6 hF
  rw [e7] at hF
  refine WL.a (some 9) (.bool t8) h_6 ?_
  replace hF := lett_some hF; obtain ⟨j12, e10, hF⟩ := hF
  have J11 : ∀ (t12 : Bool) (h_9 : AHeap), j12 t12 h_9 = some (rR, hR) → WL Try.prog w0 m0 (Func.ntmps Try.f19) (Code.ops (Code.p1 (Code.p2 (codeOf Try.f19)))) 10 K2 [(0, .int .u8 t0), (12, .bool t12)] [] h_9 := by
   intro t12 h_9 hF
   rw [e10] at hF
   refine WL.a (some 13) (.bool t12) h_9 ?_
   replace hF := lett_some hF; obtain ⟨j16, e13, hF⟩ := hF
   have J14 : ∀ (t16 : Bool) (h_12 : AHeap), j16 t16 h_12 = some (rR, hR) → WL Try.prog w0 m0 (Func.ntmps Try.f19) (Code.ops (Code.p1 (Code.p2 (codeOf Try.f19)))) 14 K2 [(16, .bool t16)] [] h_12 := by
    intro t16 h_12 hF
    rw [e13] at hF
    refine WL.a (some 2) (.bool t16) h_12 ?_
    refine WL.n ?_
    refine Go.weaken (l' := [(2, .bool t16)]) (Fr.c Fr.n) ?_
    refine n2 ?_
    refine W.ret (by kernel_rfl) ?_
    obtain ⟨hF, hF2⟩ := ret_inj hF; subst hF; subst hF2
    exact leave_of (rs := [.tmp 2]) (vs := [.bool t16]) (by kernel_rfl) (res_tmp (by kernel_rfl) res_nil) (by kernel_rfl)
   cases t12 with
   | true =>
    replace hF := ifB_t hF
    refine WL.o (some 14) ?_
    refine WL.o (some 15) ?_
    refine WL.a (some 16) (.bool true) h_9 ?_
    exact WL.weaken (Fr.c Fr.n) (J14 _ _ hF)
   | false =>
    replace hF := ifB_f hF
    refine WL.a (some 14) (.int .u8 t0) h_9 ?_
    replace hF := lett_some hF; obtain ⟨t15, e15, hF⟩ := hF
    refine WL.val (d := (some 15)) (v := .bool t15) (h' := h_9) (by kernel_rfl) (by kernel_rfl) (val_of AV.bool e15 (by kernel_rfl)) ?_
    refine WL.a (some 16) (.bool t15) h_9 ?_
    exact WL.weaken (Fr.c Fr.n) (J14 _ _ hF)
  cases t8 with
  | true =>
   replace hF := ifB_t hF
   refine WL.o (some 10) ?_
   refine WL.o (some 11) ?_
   refine WL.a (some 12) (.bool true) h_6 ?_
   exact WL.weaken (Fr.c (Fr.c Fr.n)) (J11 _ _ hF)
  | false =>
   replace hF := ifB_f hF
   refine WL.a (some 10) (.int .u8 t0) h_6 ?_
   replace hF := lett_some hF; obtain ⟨t11, e16, hF⟩ := hF
   refine WL.val (d := (some 11)) (v := .bool t11) (h' := h_6) (by kernel_rfl) (by kernel_rfl) (val_of AV.bool e16 (by kernel_rfl)) ?_
   refine WL.a (some 12) (.bool t11) h_6 ?_
   exact WL.weaken (Fr.c (Fr.c Fr.n)) (J11 _ _ hF)
 cases t4 with
 | true =>
  replace hF := ifB_t hF
  refine WL.o (some 6) ?_
  refine WL.o (some 7) ?_
  refine WL.a (some 8) (.bool true) h_3 ?_
  exact WL.weaken (Fr.c (Fr.c Fr.n)) (J8 _ _ hF)
 | false =>
  replace hF := ifB_f hF
  refine WL.a (some 6) (.int .u8 t0) h_3 ?_
  replace hF := callN_some hF; obtain ⟨r7, h_17, e18, hF⟩ := hF
  replace hF := obind_some hF; obtain ⟨t7, c19, hF⟩ := hF
  have c19 := avBool_some c19
  subst c19
  refine WL.c (hc.ok w0) (some 7) e18 ?_
  refine WL.a (some 8) (.bool t7) h_17 ?_
  exact WL.weaken (Fr.c (Fr.c Fr.n)) (J8 _ _ hF)
noncomputable def ref12_In_fn (call : CallF) (n : Nat) : FnT := fun args h => match args with
 | [x0] => obind (avInt .u8 x0) fun t0 => ref12_In call n t0 h
 | _ => none
theorem ref12_In_holds {call : CallF} (hc : SaysAll Try.prog call) (n : Nat) : Holds Try.prog 19 (ref12_In_fn call n) := by
 intro args h r h2 e
 unfold ref12_In_fn at e
 split at e
 ·replace e := obind_some e; obtain ⟨t0, c0, e⟩ := e; have c0 := avInt_some c0; subst c0
  exact ref12_In_ok hc e
 ·cases e

noncomputable def ref12_number (_ : CallF) (_ : Nat) (t0 : Int) (h : AHeap) : R :=
 lett (decide (t0 ≥ 48)) fun (t4 : Bool) =>
 lett (fun (t8 : Bool) (h_4 : AHeap) =>
  some (.ret (.bool t8), h_4)) fun j8 =>
 ifB t4
 (
  lett (decide (t0 ≤ 57)) fun (t7 : Bool) =>
  j8 t7 h)
 (
  j8 false h)
set_option maxHeartbeats 4000000 in
set_option maxRecDepth 20000 in
theorem ref12_number_ok {call : CallF} (_ : SaysAll Try.prog call) {n : Nat} {t0 : Int} {h : AHeap} {rR : ARes} {hR : AHeap} (hF : ref12_number call n t0 h = some (rR, hR)) : Says Try.prog 24 [.int .u8 t0] h rR hR := by
 unfold ref12_number at hF
 refine says_of (fn := Try.f24) Try.func24 (c := codeOf Try.f24) (by kernel_rfl) (by kernel_rfl) (fun w0 m0 => ?_)
 refine W.weaken (l' := [(0, .int .u8 t0)]) (Fr.c Fr.n) ?_
 refine W.s (fun K1 n1 e1 q1 p1 => ?_)
 refine W.r ?_
 refine WL.a (some 2) (.bool false) h ?_
 refine WL.n ?_
 refine Go.weaken (l' := [(0, .int .u8 t0)]) (Fr.c Fr.n) ?_
 refine n1 ?_
 refine W.s (fun K2 n2 e2 q2 p2 => ?_)
 refine W.r ?_
 refine WL.a (some 3) (.int .u8 t0) h ?_
 replace hF := lett_some hF; obtain ⟨t4, e3, hF⟩ := hF
 refine WL.val (d := (some 4)) (v := .bool t4) (h' := h) (by kernel_rfl) (by kernel_rfl) (val_of AV.bool e3 (by kernel_rfl)) ?_
 refine WL.a (some 5) (.bool t4) h ?_
 replace hF := lett_some hF; obtain ⟨j8, e5, hF⟩ := hF
 have J6 : ∀ (t8 : Bool) (h_4 : AHeap), j8 t8 h_4 = some (rR, hR) → WL Try.prog w0 m0 (Func.ntmps Try.f24) (Code.ops (Code.p1 (Code.p2 (codeOf Try.f24)))) 6 K2 [(8, .bool t8)] [] h_4 := by
  intro t8 h_4 hF
  rw [e5] at hF
  refine WL.a (some 2) (.bool t8) h_4 ?_
  refine WL.n ?_
  refine Go.weaken (l' := [(2, .bool t8)]) (Fr.c Fr.n) ?_
  refine n2 ?_
  refine W.ret (by kernel_rfl) ?_
  obtain ⟨hF, hF2⟩ := ret_inj hF; subst hF; subst hF2
  exact leave_of (rs := [.tmp 2]) (vs := [.bool t8]) (by kernel_rfl) (res_tmp (by kernel_rfl) res_nil) (by kernel_rfl)
 cases t4 with
 | true =>
  replace hF := ifB_t hF
  refine WL.a (some 6) (.int .u8 t0) h ?_
  replace hF := lett_some hF; obtain ⟨t7, e7, hF⟩ := hF
  refine WL.val (d := (some 7)) (v := .bool t7) (h' := h) (by kernel_rfl) (by kernel_rfl) (val_of AV.bool e7 (by kernel_rfl)) ?_
  refine WL.a (some 8) (.bool t7) h ?_
  exact WL.weaken (Fr.c Fr.n) (J6 _ _ hF)
 | false =>
  replace hF := ifB_f hF
  refine WL.o (some 6) ?_
  refine WL.o (some 7) ?_
  refine WL.a (some 8) (.bool false) h ?_
  exact WL.weaken (Fr.c Fr.n) (J6 _ _ hF)
noncomputable def ref12_number_fn (call : CallF) (n : Nat) : FnT := fun args h => match args with
 | [x0] => obind (avInt .u8 x0) fun t0 => ref12_number call n t0 h
 | _ => none
theorem ref12_number_holds {call : CallF} (hc : SaysAll Try.prog call) (n : Nat) : Holds Try.prog 24 (ref12_number_fn call n) := by
 intro args h r h2 e
 unfold ref12_number_fn at e
 split at e
 ·replace e := obind_some e; obtain ⟨t0, c0, e⟩ := e; have c0 := avInt_some c0; subst c0
  exact ref12_number_ok hc e
 ·cases e

noncomputable def ref12_ends (_ : CallF) (_ : Nat) (t0 : Bytes) (t1 : Int) (h : AHeap) : R :=
 lett ((t1 : Int) == (lenS t0)) fun (t8 : Bool) =>
 lett (fun (t14 : Bool) (h_4 : AHeap) =>
  lett (fun (t20 : Bool) (h_7 : AHeap) =>
   lett (fun (t26 : Bool) (h_10 : AHeap) =>
    some (.ret (.bool t26), h_10)) fun j26 =>
   ifB t20
   (
    j26 true h_7)
   (
    obind (idxS t0 t1) fun t24 =>
    lett ((t24 : Int) == 10) fun (t25 : Bool) =>
    j26 t25 h_7)) fun j20 =>
  ifB t14
  (
   j20 true h_4)
  (
   obind (idxS t0 t1) fun t18 =>
   lett ((t18 : Int) == 9) fun (t19 : Bool) =>
   j20 t19 h_4)) fun j14 =>
 ifB t8
 (
  j14 true h)
 (
  obind (idxS t0 t1) fun t12 =>
  lett ((t12 : Int) == 32) fun (t13 : Bool) =>
  j14 t13 h)
set_option maxHeartbeats 4000000 in
set_option maxRecDepth 20000 in
theorem ref12_ends_ok {call : CallF} (_ : SaysAll Try.prog call) {n : Nat} {t0 : Bytes} {t1 : Int} {h : AHeap} {rR : ARes} {hR : AHeap} (hF : ref12_ends call n t0 t1 h = some (rR, hR)) : Says Try.prog 26 [strA t0, .int .i64 t1] h rR hR := by
 unfold ref12_ends at hF
 refine says_of (fn := Try.f26) Try.func26 (c := codeOf Try.f26) (by kernel_rfl) (by kernel_rfl) (fun w0 m0 => ?_)
 refine W.weaken (l' := [(0, strA t0), (1, .int .i64 t1)]) (Fr.c (Fr.c Fr.n)) ?_
 refine W.s (fun K1 n1 e1 q1 p1 => ?_)
 refine W.r ?_
 refine WL.a (some 4) (.bool false) h ?_
 refine WL.n ?_
 refine Go.weaken (l' := [(0, strA t0), (1, .int .i64 t1)]) (Fr.c (Fr.c Fr.n)) ?_
 refine n1 ?_
 refine W.s (fun K2 n2 e2 q2 p2 => ?_)
 refine W.r ?_
 refine WL.a (some 5) (.int .i64 t1) h ?_
 refine WL.a (some 6) (strA t0) h ?_
 refine WL.a (some 7) (.int .i64 (lenS t0)) h ?_
 replace hF := lett_some hF; obtain ⟨t8, e3, hF⟩ := hF
 refine WL.val (d := (some 8)) (v := .bool t8) (h' := h) (by kernel_rfl) (by kernel_rfl) (val_of AV.bool e3 (by kernel_rfl)) ?_
 refine WL.a (some 9) (.bool t8) h ?_
 replace hF := lett_some hF; obtain ⟨j14, e5, hF⟩ := hF
 have J6 : ∀ (t14 : Bool) (h_4 : AHeap), j14 t14 h_4 = some (rR, hR) → WL Try.prog w0 m0 (Func.ntmps Try.f26) (Code.ops (Code.p1 (Code.p2 (codeOf Try.f26)))) 10 K2 [(0, strA t0), (1, .int .i64 t1), (14, .bool t14)] [] h_4 := by
  intro t14 h_4 hF
  rw [e5] at hF
  refine WL.a (some 15) (.bool t14) h_4 ?_
  replace hF := lett_some hF; obtain ⟨j20, e8, hF⟩ := hF
  have J9 : ∀ (t20 : Bool) (h_7 : AHeap), j20 t20 h_7 = some (rR, hR) → WL Try.prog w0 m0 (Func.ntmps Try.f26) (Code.ops (Code.p1 (Code.p2 (codeOf Try.f26)))) 16 K2 [(0, strA t0), (1, .int .i64 t1), (20, .bool t20)] [] h_7 := by
   intro t20 h_7 hF
   rw [e8] at hF
   refine WL.a (some 21) (.bool t20) h_7 ?_
   replace hF := lett_some hF; obtain ⟨j26, e11, hF⟩ := hF
   have J12 : ∀ (t26 : Bool) (h_10 : AHeap), j26 t26 h_10 = some (rR, hR) → WL Try.prog w0 m0 (Func.ntmps Try.f26) (Code.ops (Code.p1 (Code.p2 (codeOf Try.f26)))) 22 K2 [(26, .bool t26)] [] h_10 := by
    intro t26 h_10 hF
    rw [e11] at hF
    refine WL.a (some 4) (.bool t26) h_10 ?_
    refine WL.n ?_
    refine Go.weaken (l' := [(4, .bool t26)]) (Fr.c Fr.n) ?_
    refine n2 ?_
    refine W.ret (by kernel_rfl) ?_
    obtain ⟨hF, hF2⟩ := ret_inj hF; subst hF; subst hF2
    exact leave_of (rs := [.tmp 4]) (vs := [.bool t26]) (by kernel_rfl) (res_tmp (by kernel_rfl) res_nil) (by kernel_rfl)
   cases t20 with
   | true =>
    replace hF := ifB_t hF
    refine WL.o (some 22) ?_
    refine WL.o (some 23) ?_
    refine WL.o (some 24) ?_
    refine WL.o (some 25) ?_
    refine WL.a (some 26) (.bool true) h_7 ?_
    exact WL.weaken (Fr.c Fr.n) (J12 _ _ hF)
   | false =>
    replace hF := ifB_f hF
    refine WL.a (some 22) (strA t0) h_7 ?_
    refine WL.a (some 23) (.int .i64 t1) h_7 ?_
    replace hF := obind_some hF; obtain ⟨t24, e13, hF⟩ := hF
    refine WL.b (some 24) (.int .u8 t24) h_7 (index_str (P := Try.prog) (h := h_7) (t := 9) (k := .i64) (by kernel_rfl) e13) ?_
    replace hF := lett_some hF; obtain ⟨t25, e14, hF⟩ := hF
    refine WL.val (d := (some 25)) (v := .bool t25) (h' := h_7) (by kernel_rfl) (by kernel_rfl) (val_of AV.bool e14 (by kernel_rfl)) ?_
    refine WL.a (some 26) (.bool t25) h_7 ?_
    exact WL.weaken (Fr.c Fr.n) (J12 _ _ hF)
  cases t14 with
  | true =>
   replace hF := ifB_t hF
   refine WL.o (some 16) ?_
   refine WL.o (some 17) ?_
   refine WL.o (some 18) ?_
   refine WL.o (some 19) ?_
   refine WL.a (some 20) (.bool true) h_4 ?_
   exact WL.weaken (Fr.c (Fr.c (Fr.c Fr.n))) (J9 _ _ hF)
  | false =>
   replace hF := ifB_f hF
   refine WL.a (some 16) (strA t0) h_4 ?_
   refine WL.a (some 17) (.int .i64 t1) h_4 ?_
   replace hF := obind_some hF; obtain ⟨t18, e15, hF⟩ := hF
   refine WL.b (some 18) (.int .u8 t18) h_4 (index_str (P := Try.prog) (h := h_4) (t := 9) (k := .i64) (by kernel_rfl) e15) ?_
   replace hF := lett_some hF; obtain ⟨t19, e16, hF⟩ := hF
   refine WL.val (d := (some 19)) (v := .bool t19) (h' := h_4) (by kernel_rfl) (by kernel_rfl) (val_of AV.bool e16 (by kernel_rfl)) ?_
   refine WL.a (some 20) (.bool t19) h_4 ?_
   exact WL.weaken (Fr.c (Fr.c (Fr.c Fr.n))) (J9 _ _ hF)
 cases t8 with
 | true =>
  replace hF := ifB_t hF
  refine WL.o (some 10) ?_
  refine WL.o (some 11) ?_
  refine WL.o (some 12) ?_
  refine WL.o (some 13) ?_
  refine WL.a (some 14) (.bool true) h ?_
  exact WL.weaken (Fr.c (Fr.c (Fr.c Fr.n))) (J6 _ _ hF)
 | false =>
  replace hF := ifB_f hF
  refine WL.a (some 10) (strA t0) h ?_
  refine WL.a (some 11) (.int .i64 t1) h ?_
  replace hF := obind_some hF; obtain ⟨t12, e17, hF⟩ := hF
  refine WL.b (some 12) (.int .u8 t12) h (index_str (P := Try.prog) (h := h) (t := 9) (k := .i64) (by kernel_rfl) e17) ?_
  replace hF := lett_some hF; obtain ⟨t13, e18, hF⟩ := hF
  refine WL.val (d := (some 13)) (v := .bool t13) (h' := h) (by kernel_rfl) (by kernel_rfl) (val_of AV.bool e18 (by kernel_rfl)) ?_
  refine WL.a (some 14) (.bool t13) h ?_
  exact WL.weaken (Fr.c (Fr.c (Fr.c Fr.n))) (J6 _ _ hF)
noncomputable def ref12_ends_fn (call : CallF) (n : Nat) : FnT := fun args h => match args with
 | [x0, x1] => obind (avStr x0) fun t0 => obind (avInt .i64 x1) fun t1 => ref12_ends call n t0 t1 h
 | _ => none
theorem ref12_ends_holds {call : CallF} (hc : SaysAll Try.prog call) (n : Nat) : Holds Try.prog 26 (ref12_ends_fn call n) := by
 intro args h r h2 e
 unfold ref12_ends_fn at e
 split at e
 ·replace e := obind_some e; obtain ⟨t0, c0, e⟩ := e; have c0 := avStr_some c0; subst c0
  replace e := obind_some e; obtain ⟨t1, c1, e⟩ := e; have c1 := avInt_some c1; subst c1
  exact ref12_ends_ok hc e
 ·cases e

end Go.Proofs.Ytjopejiooipmkaa
