/- What lexBlanks_proved stands on, part 7 of 10. -/
import Derived.Test.YtjopejiooipmkaaDoorLka6
namespace Go.Proofs.YtjopejiooipmkaaDoor
open Go.RowKit Abs
set_option maxHeartbeats 4000000
set_option maxRecDepth 20000
noncomputable def lex_Lex_L0b (call : CallF) (t0 : Bytes) (h : AHeap) (h_2 : AHeap) (k18 : AHeap → R) (self : AHeap → R) (h_27 : AHeap) : R :=
 obind (ldCell h_27 (AV.ptr (AHeap.next h_2) 1)) fun v13 =>
 obind (avInt .i64 v13) fun t13 =>
 lett (decide (t13 < (lenS t0))) fun (t16 : Bool) =>
 ifB t16
 (
  callN (call 13 [(newP h_2)] h_27) fun r17 h_35 =>
  obind (avAgg r17) fun t17 =>
  lett (newH h_35 27 [.int .i64 0, .int .i64 0]) fun h_38 =>
  obind (stRow h_38 2 t17 (newP h_35)) fun h_40 =>
  obind (ldCell h_40 (AV.ptr (AHeap.next h_35) 0)) fun v19 =>
  obind (avInt .i64 v19) fun t19 =>
  lett ((t19 : Int) != 0) fun (t20 : Bool) =>
  ifB t20
  (
   obind (ldRow h_40 2 (newP h_35)) fun t21 =>
   obind (stRow h_40 2 t21 (newP h)) fun h_48 =>
   obind (ldRow h_48 2 (newP h)) fun w3_51 =>
   some (.ret (.tup [AV.nsl, .agg w3_51]), h_48))
  (
   self h_40))
 (
  k18 h_27)
noncomputable def lex_Lex_L0 (call : CallF) (t0 : Bytes) (h : AHeap) (h_2 : AHeap) (k18 : AHeap → R) : Nat → AHeap → R := iterR (fun _ => none) (lex_Lex_L0b call t0 h h_2 k18)
theorem lex_Lex_L0_s (call : CallF) (t0 : Bytes) (h : AHeap) (h_2 : AHeap) (k18 : AHeap → R) (m : Nat) : lex_Lex_L0 call t0 h h_2 k18 (m + 1) = lex_Lex_L0b call t0 h h_2 k18 (lex_Lex_L0 call t0 h h_2 k18 m) := rfl
noncomputable def lex_Lex (call : CallF) (n : Nat) (t0 : Bytes) (h : AHeap) : R :=
 lett (newH h 27 [.int .i64 0, .int .i64 0]) fun h_2 =>
 lett (decide ((lenS t0) > 2048)) fun (t8 : Bool) =>
 ifB t8
 (
  obind (stRow h_2 2 ([.int .i64 3, .int .i64 2048] : List AV) (newP h)) fun h_8 =>
  obind (ldRow h_8 2 (newP h)) fun w3 =>
  some (.ret (.tup [AV.nsl, .agg w3]), h_8))
 (
  lett (newH h_2 41 [.str 0 0, .int .i64 0, .nsl]) fun h_12 =>
  obind (stRow h_12 3 ([strA t0, .int .i64 0, .nsl] : List AV) (newP h_2)) fun h_14 =>
  lett (fun  (h_19 : AHeap) =>
   obind (ldCell h_19 (AV.ptr (AHeap.next h_2) 2)) fun v23 =>
   obind (stRow h_19 2 ([.int .i64 0, .int .i64 0] : List AV) (newP h)) fun h_22 =>
   obind (ldRow h_22 2 (newP h)) fun w3_25 =>
   some (.ret (.tup [v23, .agg w3_25]), h_22)) fun k18 =>
  lex_Lex_L0 call t0 h h_2 k18 n  h_14)
theorem lex_Lex_ok {call : CallF} (hc : SaysAll Pg call) {n : Nat} {t0 : Bytes} {h : AHeap} {rR : ARes} {hR : AHeap} (z : lex_Lex call n t0 h = some (rR, hR)) : Says Pg 8 [strA t0] h rR hR := by
 unfold lex_Lex at z
 refine says_of (fn := Tryd.f8) Tryd.func8 (c := codeOf Tryd.f8) (by kernel_rfl) (by kernel_rfl) (fun w0 m0 => ?_)
 refine W.weaken (l' := [(0, strA t0)]) (Fr.c Fr.n) ?_
 refine W.s (fun _ n1 _ _ _ => ?_)
 refine W.r ?_
 refine WL.a (some 2) AV.nsl h ?_
 replace z := lS z; obtain ⟨h_2, e3, z⟩ := z
 refine WL.val (d := (some 3)) (v := (newP h)) (h' := h_2) (by kernel_rfl) (by kernel_rfl) (val_ofH e3 (by kernel_rfl)) ?_
 refine WL.n ?_
 refine Go.weaken (l' := [(0, strA t0), (3, newP h)]) (Fr.c (Fr.c Fr.n)) ?_
 refine n1 ?_
 refine W.s (fun _ n4 _ q4 _ => ?_)
 refine W.s (fun _ n5 _ _ _ => ?_)
 refine W.r ?_
 refine WL.a (some 6) (strA t0) h_2 ?_
 refine WL.a (some 7) (.int .i64 (lenS t0)) h_2 ?_
 replace z := lS z; obtain ⟨t8, e6, z⟩ := z
 refine WL.val (d := (some 8)) (v := .bool t8) (h' := h_2) (by kernel_rfl) (by kernel_rfl) (val_of AV.bool e6 (by kernel_rfl)) ?_
 refine WL.n ?_
 refine Go.weaken (l' := [(0, strA t0), (3, newP h), (8, .bool t8)]) (Fr.c (Fr.c (Fr.c Fr.n))) ?_
 refine n5 ?_
 cases t8 with
 | true =>
  replace z := ifB_t z
  refine W.t ?_
  refine W.s (fun _ n7 _ _ _ => ?_)
  refine W.r ?_
  refine WL.a (some 9) (.agg ([.int .i64 3, .int .i64 2048] : List AV)) h_2 ?_
  refine WL.a (some 2) AV.nsl h_2 ?_
  replace z := oS z; obtain ⟨h_8, e9, z⟩ := z
  refine WL.e h_8 (store_row (P := Pg) (h := h_2) (t := 27) (v := (.agg ([.int .i64 3, .int .i64 2048] : List AV))) (by kernel_rfl) (by kernel_rfl) e9) ?_
  refine WL.n ?_
  refine Go.weaken (l' := [(2, AV.nsl), (3, newP h)]) (Fr.c (Fr.c Fr.n)) ?_
  refine n7 ?_
  refine W.ret (by kernel_rfl) ?_
  refine q4 ?_
  replace z := oS z; obtain ⟨w3, e10, z⟩ := z
  obtain ⟨z, hF2⟩ := ret_inj z; subst z; subst hF2
  exact leave_of (rs := [.tmp 2, .cell 3 27]) (vs := [AV.nsl, .agg w3]) (by kernel_rfl) (res_tmp (by kernel_rfl) (res_cell (by kernel_rfl) (load_row (P := Pg) (h := h_8) (t := 27) (by kernel_rfl) (by kernel_rfl) e10) res_nil)) (by kernel_rfl)
 | false =>
  replace z := ifB_f z
  refine W.f ?_
  refine W.skip (by kernel_rfl) ?_
  refine n4 ?_
  refine W.s (fun _ n11 _ _ _ => ?_)
  refine W.r ?_
  refine WL.a (some 10) (strA t0) h_2 ?_
  refine WL.a (some 11) (.agg ([strA t0, .int .i64 0, .nsl] : List AV)) h_2 ?_
  replace z := lS z; obtain ⟨h_12, e13, z⟩ := z
  refine WL.val (d := (some 4)) (v := (newP h_2)) (h' := h_12) (by kernel_rfl) (by kernel_rfl) (val_ofH e13 (by kernel_rfl)) ?_
  replace z := oS z; obtain ⟨h_14, e15, z⟩ := z
  refine WL.e h_14 (store_row (P := Pg) (h := h_12) (t := 41) (v := (.agg ([strA t0, .int .i64 0, .nsl] : List AV))) (by kernel_rfl) (by kernel_rfl) e15) ?_
  refine WL.n ?_
  refine Go.weaken (l' := [(0, strA t0), (3, newP h), (4, newP h_2)]) (Fr.c (Fr.c (Fr.c Fr.n))) ?_
  refine n11 ?_
  refine W.s (fun K16 n16 _ q16 _ => ?_)
  replace z := lS z; obtain ⟨k18, e18, z⟩ := z
  have J18 : ∀  (h_19 : AHeap), k18 h_19 = some (rR, hR) → Go w0 m0 (Func.ntmps Tryd.f8) (K16 .normal) [(3, newP h), (4, newP h_2)] [] h_19 := by
   intro  h_19 z
   rw [e18] at z
   refine n16 ?_
   refine W.s (fun _ n20 _ _ _ => ?_)
   refine W.r ?_
   refine WL.a (some 22) (AV.ptr (AHeap.next h_2) 2) h_19 ?_
   replace z := oS z; obtain ⟨v23, e21, z⟩ := z
   refine WL.b (some 23) v23 h_19 (load_cell (P := Pg) (h := h_19) (t := 24) (by kernel_rfl) e21) ?_
   refine WL.a (some 24) (.agg ([.int .i64 0, .int .i64 0] : List AV)) h_19 ?_
   refine WL.a (some 2) v23 h_19 ?_
   replace z := oS z; obtain ⟨h_22, e23, z⟩ := z
   refine WL.e h_22 (store_row (P := Pg) (h := h_19) (t := 27) (v := (.agg ([.int .i64 0, .int .i64 0] : List AV))) (by kernel_rfl) (by kernel_rfl) e23) ?_
   refine WL.n ?_
   refine Go.weaken (l' := [(2, v23), (3, newP h)]) (Fr.c (Fr.c Fr.n)) ?_
   refine n20 ?_
   refine W.ret (by kernel_rfl) ?_
   replace z := oS z; obtain ⟨w3_25, e24, z⟩ := z
   obtain ⟨z, hF2⟩ := ret_inj z; subst z; subst hF2
   exact leave_of (rs := [.tmp 2, .cell 3 27]) (vs := [v23, .agg w3_25]) (by kernel_rfl) (res_tmp (by kernel_rfl) (res_cell (by kernel_rfl) (load_row (P := Pg) (h := h_22) (t := 27) (by kernel_rfl) (by kernel_rfl) e24) res_nil)) (by kernel_rfl)
  refine W.blockK (by kernel_rfl) (fun K17 n17 s17 o17 q17 p17 => ?_)
  refine W.loopK (by kernel_rfl) (fun I26 K26 b26 n26 e26 q26 p26 => ?_)
  have L26 : ∀ (m : Nat)  (h_27 : AHeap), lex_Lex_L0 call t0 h h_2 k18 m  h_27 = some (rR, hR) → Go w0 m0 (Func.ntmps Tryd.f8) I26 [(0, strA t0), (3, newP h), (4, newP h_2)] [] h_27 := by
   intro m
   induction m with
   | zero => intro  h_27 z; cases z
   | succ m ih26 =>
    intro  h_27 z
    rw [lex_Lex_L0_s] at z; unfold lex_Lex_L0b at z
    refine b26 ?_
    refine W.s (fun _ n28 e28 _ _ => ?_)
    refine W.s (fun _ n29 _ _ _ => ?_)
    refine W.r ?_
    refine WL.a (some 12) (AV.ptr (AHeap.next h_2) 1) h_27 ?_
    replace z := oS z; obtain ⟨v13, e30, z⟩ := z
    replace z := oS z; obtain ⟨t13, c31, z⟩ := z
    have c31 := avInt_some c31
    subst c31
    refine WL.b (some 13) (.int .i64 t13) h_27 (load_cell (P := Pg) (h := h_27) (t := 3) (by kernel_rfl) e30) ?_
    refine WL.a (some 14) (strA t0) h_27 ?_
    refine WL.a (some 15) (.int .i64 (lenS t0)) h_27 ?_
    replace z := lS z; obtain ⟨t16, e32, z⟩ := z
    refine WL.val (d := (some 16)) (v := .bool t16) (h' := h_27) (by kernel_rfl) (by kernel_rfl) (val_of AV.bool e32 (by kernel_rfl)) ?_
    refine WL.n ?_
    refine Go.weaken (l' := [(0, strA t0), (3, newP h), (4, newP h_2), (16, .bool t16)]) (Fr.c (Fr.c (Fr.c (Fr.c Fr.n)))) ?_
    refine n29 ?_
    cases t16 with
    | true =>
     replace z := ifB_t z
     refine W.t ?_
     refine W.skip (by kernel_rfl) ?_
     refine n28 ?_
     refine W.blockK (by kernel_rfl) (fun K33 n33 s33 o33 q33 p33 => ?_)
     refine W.s (fun _ n34 _ _ _ => ?_)
     refine W.r ?_
     replace z := callN_some z; obtain ⟨r17, h_35, e36, z⟩ := z
     replace z := oS z; obtain ⟨t17, c37, z⟩ := z
     have c37 := avAgg_some c37
     subst c37
     refine WL.c (hc.ok w0) (some 17) e36 ?_
     replace z := lS z; obtain ⟨h_38, e39, z⟩ := z
     refine WL.val (d := (some 5)) (v := (newP h_35)) (h' := h_38) (by kernel_rfl) (by kernel_rfl) (val_ofH e39 (by kernel_rfl)) ?_
     replace z := oS z; obtain ⟨h_40, e41, z⟩ := z
     refine WL.e h_40 (store_row (P := Pg) (h := h_38) (t := 27) (v := (.agg t17)) (by kernel_rfl) (by kernel_rfl) e41) ?_
     refine WL.n ?_
     refine Go.weaken (l' := [(0, strA t0), (3, newP h), (4, newP h_2), (5, newP h_35)]) (Fr.c (Fr.c (Fr.c (Fr.c Fr.n)))) ?_
     refine n34 ?_
     refine W.s (fun _ n42 _ _ _ => ?_)
     refine W.r ?_
     refine WL.a (some 18) (AV.ptr (AHeap.next h_35) 0) h_40 ?_
     replace z := oS z; obtain ⟨v19, e43, z⟩ := z
     replace z := oS z; obtain ⟨t19, c44, z⟩ := z
     have c44 := avInt_some c44
     subst c44
     refine WL.b (some 19) (.int .i64 t19) h_40 (load_cell (P := Pg) (h := h_40) (t := 25) (by kernel_rfl) e43) ?_
     replace z := lS z; obtain ⟨t20, e45, z⟩ := z
     refine WL.val (d := (some 20)) (v := .bool t20) (h' := h_40) (by kernel_rfl) (by kernel_rfl) (val_of AV.bool e45 (by kernel_rfl)) ?_
     refine WL.n ?_
     refine Go.weaken (l' := [(0, strA t0), (3, newP h), (4, newP h_2), (5, newP h_35), (20, .bool t20)]) (Fr.c (Fr.c (Fr.c (Fr.c (Fr.c Fr.n))))) ?_
     refine n42 ?_
     cases t20 with
     | true =>
      replace z := ifB_t z
      refine W.t ?_
      refine W.s (fun _ n46 _ _ _ => ?_)
      refine W.draw (by kernel_rfl) (hc.ok w0) (plan := [0, 1, 2]) (by kernel_rfl) (by kernel_rfl) (by kernel_rfl) ?_
      replace z := oS z; obtain ⟨t21, e47, z⟩ := z
      refine WD.b 1 (some 21) (.agg t21) h_40 (load_row (P := Pg) (h := h_40) (t := 27) (by kernel_rfl) (by kernel_rfl) e47) ?_
      refine WD.a 0 (some 2) AV.nsl h_40 ?_
      replace z := oS z; obtain ⟨h_48, e49, z⟩ := z
      refine WD.eff (h' := h_48) (by kernel_rfl) (by kernel_rfl) (Eq.trans (by kernel_rfl) (store_row (P := Pg) (h := h_40) (t := 27) (v := (.agg t21)) (by kernel_rfl) (by kernel_rfl) e49)) (k := 2) (by kernel_rfl) (fun _ => (by kernel_rfl)) (by decide) ?_
      refine WD.nil ?_
      refine Go.weaken (l' := [(2, AV.nsl), (3, newP h)]) (Fr.c (Fr.c Fr.n)) ?_
      refine n46 ?_
      refine W.ret (by kernel_rfl) ?_
      refine q33 ?_
      refine q26 ?_
      refine q17 ?_
      refine q16 ?_
      replace z := oS z; obtain ⟨w3_51, e50, z⟩ := z
      obtain ⟨z, hF2⟩ := ret_inj z; subst z; subst hF2
      exact leave_of (rs := [.tmp 2, .cell 3 27]) (vs := [AV.nsl, .agg w3_51]) (by kernel_rfl) (res_tmp (by kernel_rfl) (res_cell (by kernel_rfl) (load_row (P := Pg) (h := h_48) (t := 27) (by kernel_rfl) (by kernel_rfl) e50) res_nil)) (by kernel_rfl)
     | false =>
      replace z := ifB_f z
      refine W.f ?_
      refine W.skip (by kernel_rfl) ?_
      refine n33 ?_
      refine n26 ?_
      exact Go.weaken (Fr.c (Fr.c (Fr.c Fr.n))) (ih26 _ z)
    | false =>
     replace z := ifB_f z
     refine W.f ?_
     refine W.exit (by kernel_rfl) ?_
     refine e28 ?_
     refine e26 ?_
     refine s17 (by kernel_rfl) ?_
     exact Go.weaken (Fr.c (Fr.c Fr.n)) (J18 _ z)
  exact Go.weaken (Fr.c (Fr.c (Fr.c Fr.n))) (L26 _ _ z)
noncomputable def lex_Lex_fn (call : CallF) (n : Nat) : FnT := fun args h => match args with
 | [x0] => obind (avStr x0) fun t0 => lex_Lex call n t0 h
 | _ => none
set_option maxRecDepth 100000 in
theorem lex_Lex_fn_eq (call : CallF) (n : Nat) (t0 : Bytes) (h : AHeap) : lex_Lex_fn call n [strA t0] h = lex_Lex call n t0 h :=
 (Eq.trans (obind_eq (fun t0 => lex_Lex call n t0 h) (avStr_str t0)) rfl)
theorem lex_Lex_holds {call : CallF} (hc : SaysAll Pg call) (n : Nat) : Holds Pg 8 (lex_Lex_fn call n) := by
 intro args h r h2 e
 unfold lex_Lex_fn at e
 split at e
 ·replace e := oS e; obtain ⟨t0, c0, e⟩ := e; have c0 := avStr_some c0; subst c0
  exact lex_Lex_ok hc e
 ·cases e
noncomputable def lex_lexer_line_L0b (call : CallF) (t0 : AV) (h : AHeap) (k14 : AHeap → R) (self : AHeap → R) (h_56 : AHeap) : R :=
 callN (call 20 [t0] h_56) fun r13 h_59 =>
 obind (avBool r13) fun t13 =>
 lett (!t13) fun (t14 : Bool) =>
 ifB t14
 (
  callN (call 21 [t0] h_59) fun r18 h_66 =>
  obind (avAgg r18) fun t18 =>
  lett (newH h_66 27 [.int .i64 0, .int .i64 0]) fun h_69 =>
  obind (stRow h_69 2 t18 (newP h_66)) fun h_71 =>
  obind (ldCell h_71 (AV.ptr (AHeap.next h_66) 0)) fun v20 =>
  obind (avInt .i64 v20) fun t20 =>
  lett ((t20 : Int) != 0) fun (t21 : Bool) =>
  ifB t21
  (
   obind (ldRow h_71 2 (newP h_66)) fun t22 =>
   obind (stRow h_71 2 t22 (newP h)) fun h_79 =>
   obind (ldRow h_79 2 (newP h)) fun w2_82 =>
   some (.ret (.agg w2_82), h_79))
  (
   callN (call 19 [t0] h_71) fun _ h_83 =>
   self h_83))
 (
  k14 h_59)
noncomputable def lex_lexer_line_L0 (call : CallF) (t0 : AV) (h : AHeap) (k14 : AHeap → R) : Nat → AHeap → R := iterR (fun _ => none) (lex_lexer_line_L0b call t0 h k14)
theorem lex_lexer_line_L0_s (call : CallF) (t0 : AV) (h : AHeap) (k14 : AHeap → R) (m : Nat) : lex_lexer_line_L0 call t0 h k14 (m + 1) = lex_lexer_line_L0b call t0 h k14 (lex_lexer_line_L0 call t0 h k14 m) := rfl
noncomputable def lex_lexer_line (call : CallF) (n : Nat) (t0 : AV) (h : AHeap) : R :=
 lett (newH h 27 [.int .i64 0, .int .i64 0]) fun h_2 =>
 obind (nilC t0) fun t6 =>
 obind (fldP 2 t6) fun t7 =>
 obind (ldCell h_2 t7) fun v8 =>
 obind (lenL v8) fun t9 =>
 callN (call 19 [t0] h_2) fun _ h_11 =>
 lett (fun  (h_15 : AHeap) =>
  obind (nilC t0) fun t24 =>
  obind (fldP 2 t24) fun t25 =>
  obind (ldCell h_15 t25) fun v26 =>
  obind (lenL v26) fun t27 =>
  lett (decide (t27 > t9)) fun (t29 : Bool) =>
  lett (fun  (h_24 : AHeap) =>
   obind (nilC t0) fun t45 =>
   obind (fldP 1 t45) fun t46 =>
   obind (ldCell h_24 t46) fun v47 =>
   obind (avInt .i64 v47) fun t47 =>
   lett (IntKind.i64.wrap (t47 + 1)) fun (t48 : Int) =>
   obind (nilC t0) fun t49 =>
   obind (fldP 1 t49) fun t50 =>
   obind (stRow h_24 1 [.int .i64 t48] t50) fun h_33 =>
   obind (stRow h_33 2 ([.int .i64 0, .int .i64 0] : List AV) (newP h)) fun h_36 =>
   obind (ldRow h_36 2 (newP h)) fun w2 =>
   some (.ret (.agg w2), h_36)) fun k23 =>
  ifB t29
  (
   obind (nilC t0) fun t32 =>
   obind (fldP 2 t32) fun t33 =>
   obind (ldCell h_15 t33) fun v34 =>
   obind (nilC t0) fun t36 =>
   obind (fldP 1 t36) fun t37 =>
   obind (ldCell h_15 t37) fun v38 =>
   obind (avInt .i64 v38) fun t38 =>
   outK (bldSl Pg h_15 24 1 [(0, .agg ([.int .i64 6, .str 0 0, .int .i64 0, .int .i64 t38] : List AV))]) fun v40 h_46 =>
   chk (true && (reLoad Pg h_46 24 t33 v34 && true)) <|
   outK (opAppend Pg h_46 24 24 v34 v40) fun v41 h_49 =>
   obind (nilC t0) fun t42 =>
   obind (fldP 2 t42) fun t43 =>
   obind (stRow h_49 1 (AV.cells v41) t43) fun h_53 =>
   k23 h_53)
  (
   k23 h_15)) fun k14 =>
 lex_lexer_line_L0 call t0 h k14 n  h_11
theorem lex_lexer_line_ok {call : CallF} (hc : SaysAll Pg call) {n : Nat} {t0 : AV} {h : AHeap} {rR : ARes} {hR : AHeap} (z : lex_lexer_line call n t0 h = some (rR, hR)) : Says Pg 13 [t0] h rR hR := by
 unfold lex_lexer_line at z
 refine says_of (fn := Tryd.f13) Tryd.func13 (c := codeOf Tryd.f13) (by kernel_rfl) (by kernel_rfl) (fun w0 m0 => ?_)
 refine W.weaken (l' := [(0, t0)]) (Fr.c Fr.n) ?_
 refine W.s (fun _ n1 _ _ _ => ?_)
 refine W.r ?_
 replace z := lS z; obtain ⟨h_2, e3, z⟩ := z
 refine WL.val (d := (some 2)) (v := (newP h)) (h' := h_2) (by kernel_rfl) (by kernel_rfl) (val_ofH e3 (by kernel_rfl)) ?_
 refine WL.n ?_
 refine Go.weaken (l' := [(0, t0), (2, newP h)]) (Fr.c (Fr.c Fr.n)) ?_
 refine n1 ?_
 refine W.s (fun _ n4 _ _ _ => ?_)
 refine W.r ?_
 refine WL.a (some 5) t0 h_2 ?_
 replace z := oS z; obtain ⟨t6, e5, z⟩ := z
 refine WL.b (some 6) t6 h_2 (nil_chk (h := h_2) e5) ?_
 replace z := oS z; obtain ⟨t7, e6, z⟩ := z
 refine WL.b (some 7) t7 h_2 (field_ptr (P := Pg) (h := h_2) (s := 41) (f := 2) (by kernel_rfl) e6) ?_
 replace z := oS z; obtain ⟨v8, e7, z⟩ := z
 refine WL.b (some 8) v8 h_2 (load_cell (P := Pg) (h := h_2) (t := 24) (by kernel_rfl) e7) ?_
 replace z := oS z; obtain ⟨t9, e8, z⟩ := z
 refine WL.b (some 9) (.int .i64 t9) h_2 (len_row (P := Pg) (h := h_2) (t := 24) (e' := 37) (by kernel_rfl) e8) ?_
 refine WL.a (some 3) (.int .i64 t9) h_2 ?_
 refine WL.n ?_
 refine Go.weaken (l' := [(0, t0), (2, newP h), (3, .int .i64 t9)]) (Fr.c (Fr.c (Fr.c Fr.n))) ?_
 refine n4 ?_
 refine W.s (fun K9 n9 _ q9 _ => ?_)
 refine W.s (fun _ n10 _ _ _ => ?_)
 refine W.r ?_
 refine WL.a (some 10) t0 h_2 ?_
 replace z := callN_some z; obtain ⟨r11, h_11, e12, z⟩ := z
 refine WL.c (hc.ok w0) (some 11) e12 ?_
 refine WL.n ?_
 refine Go.weaken (l' := [(0, t0), (2, newP h), (3, .int .i64 t9)]) (Fr.c (Fr.c (Fr.c Fr.n))) ?_
 refine n10 ?_
 replace z := lS z; obtain ⟨k14, e14, z⟩ := z
 have J14 : ∀  (h_15 : AHeap), k14 h_15 = some (rR, hR) → Go w0 m0 (Func.ntmps Tryd.f13) (K9 .normal) [(0, t0), (2, newP h), (3, .int .i64 t9)] [] h_15 := by
  intro  h_15 z
  rw [e14] at z
  refine n9 ?_
  refine W.s (fun K16 n16 _ _ _ => ?_)
  refine W.s (fun _ n17 _ _ _ => ?_)
  refine W.r ?_
  refine WL.a (some 23) t0 h_15 ?_
  replace z := oS z; obtain ⟨t24, e18, z⟩ := z
  refine WL.b (some 24) t24 h_15 (nil_chk (h := h_15) e18) ?_
  replace z := oS z; obtain ⟨t25, e19, z⟩ := z
  refine WL.b (some 25) t25 h_15 (field_ptr (P := Pg) (h := h_15) (s := 41) (f := 2) (by kernel_rfl) e19) ?_
  replace z := oS z; obtain ⟨v26, e20, z⟩ := z
  refine WL.b (some 26) v26 h_15 (load_cell (P := Pg) (h := h_15) (t := 24) (by kernel_rfl) e20) ?_
  replace z := oS z; obtain ⟨t27, e21, z⟩ := z
  refine WL.b (some 27) (.int .i64 t27) h_15 (len_row (P := Pg) (h := h_15) (t := 24) (e' := 37) (by kernel_rfl) e21) ?_
  refine WL.a (some 28) (.int .i64 t9) h_15 ?_
  replace z := lS z; obtain ⟨t29, e22, z⟩ := z
  refine WL.val (d := (some 29)) (v := .bool t29) (h' := h_15) (by kernel_rfl) (by kernel_rfl) (val_of AV.bool e22 (by kernel_rfl)) ?_
  refine WL.n ?_
  refine Go.weaken (l' := [(0, t0), (2, newP h), (29, .bool t29)]) (Fr.c (Fr.c (Fr.c Fr.n))) ?_
  refine n17 ?_
  replace z := lS z; obtain ⟨k23, e23, z⟩ := z
  have J23 : ∀  (h_24 : AHeap), k23 h_24 = some (rR, hR) → Go w0 m0 (Func.ntmps Tryd.f13) (K16 .normal) [(0, t0), (2, newP h)] [] h_24 := by
   intro  h_24 z
   rw [e23] at z
   refine n16 ?_
   refine W.s (fun _ n25 _ _ _ => ?_)
   refine W.r ?_
   refine WL.a (some 44) t0 h_24 ?_
   replace z := oS z; obtain ⟨t45, e26, z⟩ := z
   refine WL.b (some 45) t45 h_24 (nil_chk (h := h_24) e26) ?_
   replace z := oS z; obtain ⟨t46, e27, z⟩ := z
   refine WL.b (some 46) t46 h_24 (field_ptr (P := Pg) (h := h_24) (s := 41) (f := 1) (by kernel_rfl) e27) ?_
   replace z := oS z; obtain ⟨v47, e28, z⟩ := z
   replace z := oS z; obtain ⟨t47, c29, z⟩ := z
   have c29 := avInt_some c29
   subst c29
   refine WL.b (some 47) (.int .i64 t47) h_24 (load_cell (P := Pg) (h := h_24) (t := 3) (by kernel_rfl) e28) ?_
   replace z := lS z; obtain ⟨t48, e30, z⟩ := z
   refine WL.val (d := (some 48)) (v := .int .i64 t48) (h' := h_24) (by kernel_rfl) (by kernel_rfl) (val_of (AV.int .i64) e30 (by kernel_rfl)) ?_
   replace z := oS z; obtain ⟨t49, e31, z⟩ := z
   refine WL.b (some 49) t49 h_24 (nil_chk (h := h_24) e31) ?_
   replace z := oS z; obtain ⟨t50, e32, z⟩ := z
   refine WL.b (some 50) t50 h_24 (field_ptr (P := Pg) (h := h_24) (s := 41) (f := 1) (by kernel_rfl) e32) ?_
   replace z := oS z; obtain ⟨h_33, e34, z⟩ := z
   refine WL.e h_33 (store_row (P := Pg) (h := h_24) (t := 3) (v := (.int .i64 t48)) (by kernel_rfl) (by kernel_rfl) e34) ?_
   refine WL.n ?_
   refine Go.weaken (l' := [(2, newP h)]) (Fr.c Fr.n) ?_
   refine n25 ?_
   refine W.s (fun _ n35 _ _ _ => ?_)
   refine W.r ?_
   refine WL.a (some 51) (.agg ([.int .i64 0, .int .i64 0] : List AV)) h_33 ?_
   replace z := oS z; obtain ⟨h_36, e37, z⟩ := z
   refine WL.e h_36 (store_row (P := Pg) (h := h_33) (t := 27) (v := (.agg ([.int .i64 0, .int .i64 0] : List AV))) (by kernel_rfl) (by kernel_rfl) e37) ?_
   refine WL.n ?_
   refine Go.weaken (l' := [(2, newP h)]) (Fr.c Fr.n) ?_
   refine n35 ?_
   refine W.ret (by kernel_rfl) ?_
   replace z := oS z; obtain ⟨w2, e38, z⟩ := z
   obtain ⟨z, hF2⟩ := ret_inj z; subst z; subst hF2
   exact leave_of (rs := [.cell 2 27]) (vs := [.agg w2]) (by kernel_rfl) (res_cell (by kernel_rfl) (load_row (P := Pg) (h := h_36) (t := 27) (by kernel_rfl) (by kernel_rfl) e38) res_nil) (by kernel_rfl)
  cases t29 with
  | true =>
   replace z := ifB_t z
   refine W.t ?_
   refine W.draw (by kernel_rfl) (hc.ok w0) (plan := [0, 1, 2, 3, 4, 5, 6, 7, 8, 9, 10, 11, 12, 13, 14]) (by kernel_rfl) (by kernel_rfl) (by kernel_rfl) ?_
   refine WD.a 0 (some 30) t0 h_15 ?_
   refine WD.a 0 (some 31) t0 h_15 ?_
   replace z := oS z; obtain ⟨t32, e39, z⟩ := z
   refine WD.b 0 (some 32) t32 h_15 (nil_chk (h := h_15) e39) ?_
   replace z := oS z; obtain ⟨t33, e40, z⟩ := z
   refine WD.b 0 (some 33) t33 h_15 (field_ptr (P := Pg) (h := h_15) (s := 41) (f := 2) (by kernel_rfl) e40) ?_
   replace z := oS z; obtain ⟨v34, e41, z⟩ := z
   refine WD.b 1 (some 34) v34 h_15 (load_cell (P := Pg) (h := h_15) (t := 24) (by kernel_rfl) e41) ?_
   refine WD.a 0 (some 35) t0 h_15 ?_
   replace z := oS z; obtain ⟨t36, e42, z⟩ := z
   refine WD.b 0 (some 36) t36 h_15 (nil_chk (h := h_15) e42) ?_
   replace z := oS z; obtain ⟨t37, e43, z⟩ := z
   refine WD.b 0 (some 37) t37 h_15 (field_ptr (P := Pg) (h := h_15) (s := 41) (f := 1) (by kernel_rfl) e43) ?_
   replace z := oS z; obtain ⟨v38, e44, z⟩ := z
   replace z := oS z; obtain ⟨t38, c45, z⟩ := z
   have c45 := avInt_some c45
   subst c45
   refine WD.b 1 (some 38) (.int .i64 t38) h_15 (load_cell (P := Pg) (h := h_15) (t := 3) (by kernel_rfl) e44) ?_
   refine WD.a 0 (some 39) (.agg ([.int .i64 6, .str 0 0, .int .i64 0, .int .i64 t38] : List AV)) h_15 ?_
   replace z := outK_some z; obtain ⟨v40, h_46, e47, z⟩ := z
   replace z := chk_some z; obtain ⟨k48, z⟩ := z
   refine WD.val (d := (some 40)) (v := v40) (h' := h_46) (by kernel_rfl) (by kernel_rfl) (Eq.trans (by kernel_rfl) e47) (k := 2) (by kernel_rfl) (fun _ => (Eq.trans (by kernel_rfl) k48)) (by decide) ?_
   replace z := outK_some z; obtain ⟨v41, h_49, e50, z⟩ := z
   refine WD.val (d := (some 41)) (v := v41) (h' := h_49) (by kernel_rfl) (by kernel_rfl) (Eq.trans (by kernel_rfl) e50) (k := 2) (by kernel_rfl) (fun _ => (by kernel_rfl)) (by decide) ?_
   replace z := oS z; obtain ⟨t42, e51, z⟩ := z
   refine WD.b 0 (some 42) t42 h_49 (nil_chk (h := h_49) e51) ?_
   replace z := oS z; obtain ⟨t43, e52, z⟩ := z
   refine WD.b 0 (some 43) t43 h_49 (field_ptr (P := Pg) (h := h_49) (s := 41) (f := 2) (by kernel_rfl) e52) ?_
   replace z := oS z; obtain ⟨h_53, e54, z⟩ := z
   refine WD.eff (h' := h_53) (by kernel_rfl) (by kernel_rfl) (Eq.trans (by kernel_rfl) (store_row (P := Pg) (h := h_49) (t := 24) (v := v41) (by kernel_rfl) (by kernel_rfl) e54)) (k := 2) (by kernel_rfl) (fun _ => (by kernel_rfl)) (by decide) ?_
   refine WD.nil ?_
   refine Go.weaken (l' := [(0, t0), (2, newP h)]) (Fr.c (Fr.c Fr.n)) ?_
   exact Go.weaken (Fr.c (Fr.c Fr.n)) (J23 _ z)
  | false =>
   replace z := ifB_f z
   refine W.f ?_
   refine W.skip (by kernel_rfl) ?_
   exact Go.weaken (Fr.c (Fr.c Fr.n)) (J23 _ z)
 refine W.blockK (by kernel_rfl) (fun K13 n13 s13 o13 q13 p13 => ?_)
 refine W.loopK (by kernel_rfl) (fun I55 K55 b55 n55 e55 q55 p55 => ?_)
 have L55 : ∀ (m : Nat)  (h_56 : AHeap), lex_lexer_line_L0 call t0 h k14 m  h_56 = some (rR, hR) → Go w0 m0 (Func.ntmps Tryd.f13) I55 [(0, t0), (2, newP h), (3, .int .i64 t9)] [] h_56 := by
  intro m
  induction m with
  | zero => intro  h_56 z; cases z
  | succ m ih55 =>
   intro  h_56 z
   rw [lex_lexer_line_L0_s] at z; unfold lex_lexer_line_L0b at z
   refine b55 ?_
   refine W.s (fun _ n57 e57 _ _ => ?_)
   refine W.s (fun _ n58 _ _ _ => ?_)
   refine W.r ?_
   refine WL.a (some 12) t0 h_56 ?_
   replace z := callN_some z; obtain ⟨r13, h_59, e60, z⟩ := z
   replace z := oS z; obtain ⟨t13, c61, z⟩ := z
   have c61 := avBool_some c61
   subst c61
   refine WL.c (hc.ok w0) (some 13) e60 ?_
   replace z := lS z; obtain ⟨t14, e62, z⟩ := z
   refine WL.val (d := (some 14)) (v := .bool t14) (h' := h_59) (by kernel_rfl) (by kernel_rfl) (val_of AV.bool e62 (by kernel_rfl)) ?_
   refine WL.n ?_
   refine Go.weaken (l' := [(0, t0), (2, newP h), (3, .int .i64 t9), (14, .bool t14)]) (Fr.c (Fr.c (Fr.c (Fr.c Fr.n)))) ?_
   refine n58 ?_
   cases t14 with
   | true =>
    replace z := ifB_t z
    refine W.t ?_
    refine W.skip (by kernel_rfl) ?_
    refine n57 ?_
    refine W.s (fun _ n63 _ q63 _ => ?_)
    refine W.blockK (by kernel_rfl) (fun K64 n64 s64 o64 q64 p64 => ?_)
    refine W.s (fun _ n65 _ _ _ => ?_)
    refine W.r ?_
    refine WL.a (some 17) t0 h_59 ?_
    replace z := callN_some z; obtain ⟨r18, h_66, e67, z⟩ := z
    replace z := oS z; obtain ⟨t18, c68, z⟩ := z
    have c68 := avAgg_some c68
    subst c68
    refine WL.c (hc.ok w0) (some 18) e67 ?_
    replace z := lS z; obtain ⟨h_69, e70, z⟩ := z
    refine WL.val (d := (some 4)) (v := (newP h_66)) (h' := h_69) (by kernel_rfl) (by kernel_rfl) (val_ofH e70 (by kernel_rfl)) ?_
    replace z := oS z; obtain ⟨h_71, e72, z⟩ := z
    refine WL.e h_71 (store_row (P := Pg) (h := h_69) (t := 27) (v := (.agg t18)) (by kernel_rfl) (by kernel_rfl) e72) ?_
    refine WL.n ?_
    refine Go.weaken (l' := [(0, t0), (2, newP h), (3, .int .i64 t9), (4, newP h_66)]) (Fr.c (Fr.c (Fr.c (Fr.c Fr.n)))) ?_
    refine n65 ?_
    refine W.s (fun _ n73 _ _ _ => ?_)
    refine W.r ?_
    refine WL.a (some 19) (AV.ptr (AHeap.next h_66) 0) h_71 ?_
    replace z := oS z; obtain ⟨v20, e74, z⟩ := z
    replace z := oS z; obtain ⟨t20, c75, z⟩ := z
    have c75 := avInt_some c75
    subst c75
    refine WL.b (some 20) (.int .i64 t20) h_71 (load_cell (P := Pg) (h := h_71) (t := 25) (by kernel_rfl) e74) ?_
    replace z := lS z; obtain ⟨t21, e76, z⟩ := z
    refine WL.val (d := (some 21)) (v := .bool t21) (h' := h_71) (by kernel_rfl) (by kernel_rfl) (val_of AV.bool e76 (by kernel_rfl)) ?_
    refine WL.n ?_
    refine Go.weaken (l' := [(0, t0), (2, newP h), (3, .int .i64 t9), (4, newP h_66), (21, .bool t21)]) (Fr.c (Fr.c (Fr.c (Fr.c (Fr.c Fr.n))))) ?_
    refine n73 ?_
    cases t21 with
    | true =>
     replace z := ifB_t z
     refine W.t ?_
     refine W.s (fun _ n77 _ _ _ => ?_)
     refine W.r ?_
     replace z := oS z; obtain ⟨t22, e78, z⟩ := z
     refine WL.b (some 22) (.agg t22) h_71 (load_row (P := Pg) (h := h_71) (t := 27) (by kernel_rfl) (by kernel_rfl) e78) ?_
     replace z := oS z; obtain ⟨h_79, e80, z⟩ := z
     refine WL.e h_79 (store_row (P := Pg) (h := h_71) (t := 27) (v := (.agg t22)) (by kernel_rfl) (by kernel_rfl) e80) ?_
     refine WL.n ?_
     refine Go.weaken (l' := [(2, newP h)]) (Fr.c Fr.n) ?_
     refine n77 ?_
     refine W.ret (by kernel_rfl) ?_
     refine q64 ?_
     refine q63 ?_
     refine q55 ?_
     refine q13 ?_
     refine q9 ?_
     replace z := oS z; obtain ⟨w2_82, e81, z⟩ := z
     obtain ⟨z, hF2⟩ := ret_inj z; subst z; subst hF2
     exact leave_of (rs := [.cell 2 27]) (vs := [.agg w2_82]) (by kernel_rfl) (res_cell (by kernel_rfl) (load_row (P := Pg) (h := h_79) (t := 27) (by kernel_rfl) (by kernel_rfl) e81) res_nil) (by kernel_rfl)
    | false =>
     replace z := ifB_f z
     refine W.f ?_
     refine W.skip (by kernel_rfl) ?_
     refine n64 ?_
     refine n63 ?_
     refine W.r ?_
     refine WL.a (some 15) t0 h_71 ?_
     replace z := callN_some z; obtain ⟨r16, h_83, e84, z⟩ := z
     refine WL.c (hc.ok w0) (some 16) e84 ?_
     refine WL.n ?_
     refine Go.weaken (l' := [(0, t0), (2, newP h), (3, .int .i64 t9)]) (Fr.c (Fr.c (Fr.c Fr.n))) ?_
     refine n55 ?_
     exact Go.weaken (Fr.c (Fr.c (Fr.c Fr.n))) (ih55 _ z)
   | false =>
    replace z := ifB_f z
    refine W.f ?_
    refine W.exit (by kernel_rfl) ?_
    refine e57 ?_
    refine e55 ?_
    refine s13 (by kernel_rfl) ?_
    exact Go.weaken (Fr.c (Fr.c (Fr.c Fr.n))) (J14 _ z)
 exact Go.weaken (Fr.c (Fr.c (Fr.c Fr.n))) (L55 _ _ z)
noncomputable def lex_lexer_line_fn (call : CallF) (n : Nat) : FnT := fun args h => match args with
 | [x0] => lex_lexer_line call n x0 h
 | _ => none
set_option maxRecDepth 100000 in
theorem lex_lexer_line_fn_eq (call : CallF) (n : Nat) (t0 : AV) (h : AHeap) : lex_lexer_line_fn call n [t0] h = lex_lexer_line call n t0 h :=
 rfl
theorem lex_lexer_line_holds {call : CallF} (hc : SaysAll Pg call) (n : Nat) : Holds Pg 13 (lex_lexer_line_fn call n) := by
 intro args h r h2 e
 unfold lex_lexer_line_fn at e
 split at e
 ·exact lex_lexer_line_ok hc e
 ·cases e
noncomputable def lex_lexer_skipBlanks (call : CallF) (_ : Nat) (t0 : AV) (h : AHeap) : R :=
 callN (call 29 [t0, (AV.fn 30 [] [])] h) fun _ h_2 =>
 lett (fun (t18 : Bool) (h_6 : AHeap) =>
  lett (fun  (h_8 : AHeap) =>
   some (.ret (.tup []), h_8)) fun k7 =>
  ifB t18
  (
   callN (call 29 [t0, (AV.fn 31 [] [])] h_6) fun _ h_9 =>
   k7 h_9)
  (
   k7 h_6)) fun k5 =>
 callN (call 20 [t0] h_2) fun r5 h_11 =>
 obind (avBool r5) fun t5 =>
 lett (!t5) fun (t6 : Bool) =>
 ifB t6
 (
  obind (nilC t0) fun t9 =>
  obind (fldP 0 t9) fun t10 =>
  obind (ldCell h_11 t10) fun v11 =>
  obind (avStr v11) fun t11 =>
  obind (nilC t0) fun t13 =>
  obind (fldP 1 t13) fun t14 =>
  obind (ldCell h_11 t14) fun v15 =>
  obind (avInt .i64 v15) fun t15 =>
  obind (idxS t11 t15) fun t16 =>
  lett ((t16 : Int) == 35) fun (t17 : Bool) =>
  k5 t17 h_11)
 (
  k5 false h_11)
theorem lex_lexer_skipBlanks_ok {call : CallF} (hc : SaysAll Pg call) {n : Nat} {t0 : AV} {h : AHeap} {rR : ARes} {hR : AHeap} (z : lex_lexer_skipBlanks call n t0 h = some (rR, hR)) : Says Pg 19 [t0] h rR hR := by
 unfold lex_lexer_skipBlanks at z
 refine says_of (fn := Tryd.f19) Tryd.func19 (c := codeOf Tryd.f19) (by kernel_rfl) (by kernel_rfl) (fun w0 m0 => ?_)
 refine W.weaken (l' := [(0, t0)]) (Fr.c Fr.n) ?_
 refine W.s (fun _ n1 _ _ _ => ?_)
 refine W.r ?_
 refine WL.a (some 2) t0 h ?_
 replace z := callN_some z; obtain ⟨r3, h_2, e3, z⟩ := z
 refine WL.c (hc.ok w0) (some 3) e3 ?_
 refine WL.n ?_
 refine Go.weaken (l' := [(0, t0)]) (Fr.c Fr.n) ?_
 refine n1 ?_
 refine W.s (fun K4 n4 _ _ _ => ?_)
 replace z := lS z; obtain ⟨k5, e5, z⟩ := z
 have J5 : ∀ (t18 : Bool) (h_6 : AHeap), k5 t18 h_6 = some (rR, hR) → Go w0 m0 (Func.ntmps Tryd.f19) (K4 .normal) [(0, t0), (18, .bool t18)] [] h_6 := by
  intro t18 h_6 z
  rw [e5] at z
  refine n4 ?_
  replace z := lS z; obtain ⟨k7, e7, z⟩ := z
  have J7 : ∀  (h_8 : AHeap), k7 h_8 = some (rR, hR) → Go w0 m0 (Func.ntmps Tryd.f19) (Fin Pg Tryd.f19 w0 m0 rR hR .normal) [] [] h_8 := by
   intro  h_8 z
   rw [e7] at z
   obtain ⟨z, hF2⟩ := ret_inj z; subst z; subst hF2
   exact leaveN_of (rs := []) (vs := []) (by kernel_rfl) res_nil (by kernel_rfl)
  cases t18 with
  | true =>
   replace z := ifB_t z
   refine W.t ?_
   refine W.r ?_
   refine WL.a (some 19) t0 h_6 ?_
   replace z := callN_some z; obtain ⟨r20, h_9, e10, z⟩ := z
   refine WL.c (hc.ok w0) (some 20) e10 ?_
   refine WL.n ?_
   refine Go.weaken (l' := []) Fr.n ?_
   exact Go.weaken Fr.n (J7 _ z)
  | false =>
   replace z := ifB_f z
   refine W.f ?_
   refine W.skip (by kernel_rfl) ?_
   exact Go.weaken Fr.n (J7 _ z)
 refine W.draw (by kernel_rfl) (hc.ok w0) (plan := [0, 1, 2, 3, 4, 5, 6, 7, 8, 9, 10, 11, 12, 13, 14]) (by kernel_rfl) (by kernel_rfl) (by kernel_rfl) ?_
 refine WD.a 0 (some 4) t0 h_2 ?_
 replace z := callN_some z; obtain ⟨r5, h_11, e12, z⟩ := z
 replace z := oS z; obtain ⟨t5, c13, z⟩ := z
 have c13 := avBool_some c13
 subst c13
 refine WD.call (d := (some 5)) (by kernel_rfl) (by kernel_rfl) (by kernel_rfl) e12 (k := 2) (by kernel_rfl) (fun _ => (by kernel_rfl)) (by decide) ?_
 replace z := lS z; obtain ⟨t6, e14, z⟩ := z
 refine WD.val (d := (some 6)) (v := .bool t6) (h' := h_11) (by kernel_rfl) (by kernel_rfl) (val_of AV.bool e14 (by kernel_rfl)) (k := 0) (by kernel_rfl) (fun e => absurd e (by decide)) (by decide) ?_
 refine WD.a 0 (some 7) (.bool t6) h_11 ?_
 cases t6 with
 | true =>
  replace z := ifB_t z
  refine WD.a 0 (some 8) t0 h_11 ?_
  replace z := oS z; obtain ⟨t9, e15, z⟩ := z
  refine WD.b 0 (some 9) t9 h_11 (nil_chk (h := h_11) e15) ?_
  replace z := oS z; obtain ⟨t10, e16, z⟩ := z
  refine WD.b 0 (some 10) t10 h_11 (field_ptr (P := Pg) (h := h_11) (s := 41) (f := 0) (by kernel_rfl) e16) ?_
  replace z := oS z; obtain ⟨v11, e17, z⟩ := z
  replace z := oS z; obtain ⟨t11, c18, z⟩ := z
  have c18 := avStr_some c18
  subst c18
  refine WD.b 1 (some 11) (strA t11) h_11 (load_cell (P := Pg) (h := h_11) (t := 9) (by kernel_rfl) e17) ?_
  refine WD.a 0 (some 12) t0 h_11 ?_
  replace z := oS z; obtain ⟨t13, e19, z⟩ := z
  refine WD.b 0 (some 13) t13 h_11 (nil_chk (h := h_11) e19) ?_
  replace z := oS z; obtain ⟨t14, e20, z⟩ := z
  refine WD.b 0 (some 14) t14 h_11 (field_ptr (P := Pg) (h := h_11) (s := 41) (f := 1) (by kernel_rfl) e20) ?_
  replace z := oS z; obtain ⟨v15, e21, z⟩ := z
  replace z := oS z; obtain ⟨t15, c22, z⟩ := z
  have c22 := avInt_some c22
  subst c22
  refine WD.b 1 (some 15) (.int .i64 t15) h_11 (load_cell (P := Pg) (h := h_11) (t := 3) (by kernel_rfl) e21) ?_
  replace z := oS z; obtain ⟨t16, e23, z⟩ := z
  refine WD.b 0 (some 16) (.int .u8 t16) h_11 (index_str (P := Pg) (h := h_11) (t := 9) (k := .i64) (by kernel_rfl) e23) ?_
  replace z := lS z; obtain ⟨t17, e24, z⟩ := z
  refine WD.val (d := (some 17)) (v := .bool t17) (h' := h_11) (by kernel_rfl) (by kernel_rfl) (val_of AV.bool e24 (by kernel_rfl)) (k := 0) (by kernel_rfl) (fun e => absurd e (by decide)) (by decide) ?_
  refine WD.a 0 (some 18) (.bool t17) h_11 ?_
  refine WD.nil ?_
  exact Go.weaken (Fr.c (Fr.c Fr.n)) (J5 _ _ z)
 | false =>
  replace z := ifB_f z
  refine WD.not (d := (some 8)) (by kernel_rfl) (by kernel_rfl) (k := 0) (by kernel_rfl) (fun e => absurd e (by decide)) (by decide) ?_
  refine WD.not (d := (some 9)) (by kernel_rfl) (by kernel_rfl) (k := 0) (by kernel_rfl) (fun e => absurd e (by decide)) (by decide) ?_
  refine WD.not (d := (some 10)) (by kernel_rfl) (by kernel_rfl) (k := 0) (by kernel_rfl) (fun e => absurd e (by decide)) (by decide) ?_
  refine WD.not (d := (some 11)) (by kernel_rfl) (by kernel_rfl) (k := 1) (by kernel_rfl) (fun e => absurd e (by decide)) (by decide) ?_
  refine WD.not (d := (some 12)) (by kernel_rfl) (by kernel_rfl) (k := 0) (by kernel_rfl) (fun e => absurd e (by decide)) (by decide) ?_
  refine WD.not (d := (some 13)) (by kernel_rfl) (by kernel_rfl) (k := 0) (by kernel_rfl) (fun e => absurd e (by decide)) (by decide) ?_
  refine WD.not (d := (some 14)) (by kernel_rfl) (by kernel_rfl) (k := 0) (by kernel_rfl) (fun e => absurd e (by decide)) (by decide) ?_
  refine WD.not (d := (some 15)) (by kernel_rfl) (by kernel_rfl) (k := 1) (by kernel_rfl) (fun e => absurd e (by decide)) (by decide) ?_
  refine WD.not (d := (some 16)) (by kernel_rfl) (by kernel_rfl) (k := 0) (by kernel_rfl) (fun e => absurd e (by decide)) (by decide) ?_
  refine WD.not (d := (some 17)) (by kernel_rfl) (by kernel_rfl) (k := 0) (by kernel_rfl) (fun e => absurd e (by decide)) (by decide) ?_
  refine WD.a 0 (some 18) (.bool false) h_11 ?_
  refine WD.nil ?_
  exact Go.weaken (Fr.c (Fr.c Fr.n)) (J5 _ _ z)
noncomputable def lex_lexer_skipBlanks_fn (call : CallF) (n : Nat) : FnT := fun args h => match args with
 | [x0] => lex_lexer_skipBlanks call n x0 h
 | _ => none
set_option maxRecDepth 100000 in
theorem lex_lexer_skipBlanks_fn_eq (call : CallF) (n : Nat) (t0 : AV) (h : AHeap) : lex_lexer_skipBlanks_fn call n [t0] h = lex_lexer_skipBlanks call n t0 h :=
 rfl
theorem lex_lexer_skipBlanks_holds {call : CallF} (hc : SaysAll Pg call) (n : Nat) : Holds Pg 19 (lex_lexer_skipBlanks_fn call n) := by
 intro args h r h2 e
 unfold lex_lexer_skipBlanks_fn at e
 split at e
 ·exact lex_lexer_skipBlanks_ok hc e
 ·cases e
noncomputable def lex_lexer_skipBlanks_1 (_ : CallF) (_ : Nat) (t0 : Int) (h : AHeap) : R :=
 lett ((t0 : Int) != 10) fun (t4 : Bool) =>
 some (.ret (.bool t4), h)
theorem lex_lexer_skipBlanks_1_ok {call : CallF} (_ : SaysAll Pg call) {n : Nat} {t0 : Int} {h : AHeap} {rR : ARes} {hR : AHeap} (z : lex_lexer_skipBlanks_1 call n t0 h = some (rR, hR)) : Says Pg 31 [.int .u8 t0] h rR hR := by
 unfold lex_lexer_skipBlanks_1 at z
 refine says_of (fn := Tryd.f31) Tryd.func31 (c := codeOf Tryd.f31) (by kernel_rfl) (by kernel_rfl) (fun w0 m0 => ?_)
 refine W.weaken (l' := [(0, .int .u8 t0)]) (Fr.c Fr.n) ?_
 refine W.s (fun _ n1 _ _ _ => ?_)
 refine W.r ?_
 refine WL.a (some 2) (.bool false) h ?_
 refine WL.n ?_
 refine Go.weaken (l' := [(0, .int .u8 t0)]) (Fr.c Fr.n) ?_
 refine n1 ?_
 refine W.s (fun _ n2 _ _ _ => ?_)
 refine W.r ?_
 refine WL.a (some 3) (.int .u8 t0) h ?_
 replace z := lS z; obtain ⟨t4, e3, z⟩ := z
 refine WL.val (d := (some 4)) (v := .bool t4) (h' := h) (by kernel_rfl) (by kernel_rfl) (val_of AV.bool e3 (by kernel_rfl)) ?_
 refine WL.a (some 2) (.bool t4) h ?_
 refine WL.n ?_
 refine Go.weaken (l' := [(2, .bool t4)]) (Fr.c Fr.n) ?_
 refine n2 ?_
 refine W.ret (by kernel_rfl) ?_
 obtain ⟨z, hF2⟩ := ret_inj z; subst z; subst hF2
 exact leave_of (rs := [.tmp 2]) (vs := [.bool t4]) (by kernel_rfl) (res_tmp (by kernel_rfl) res_nil) (by kernel_rfl)
noncomputable def lex_lexer_skipBlanks_1_fn (call : CallF) (n : Nat) : FnT := fun args h => match args with
 | [x0] => obind (avInt .u8 x0) fun t0 => lex_lexer_skipBlanks_1 call n t0 h
 | _ => none
set_option maxRecDepth 100000 in
theorem lex_lexer_skipBlanks_1_fn_eq (call : CallF) (n : Nat) (t0 : Int) (h : AHeap) : lex_lexer_skipBlanks_1_fn call n [.int .u8 t0] h = lex_lexer_skipBlanks_1 call n t0 h :=
 (Eq.trans (obind_eq (fun t0 => lex_lexer_skipBlanks_1 call n t0 h) (avInt_int .u8 t0)) rfl)
theorem lex_lexer_skipBlanks_1_holds {call : CallF} (hc : SaysAll Pg call) (n : Nat) : Holds Pg 31 (lex_lexer_skipBlanks_1_fn call n) := by
 intro args h r h2 e
 unfold lex_lexer_skipBlanks_1_fn at e
 split at e
 ·replace e := oS e; obtain ⟨t0, c0, e⟩ := e; have c0 := avInt_some c0; subst c0
  exact lex_lexer_skipBlanks_1_ok hc e
 ·cases e
noncomputable def lex_lexer_skip (call : CallF) (_ : Nat) (t0 : AV) (t1 : AV) (h : AHeap) : R :=
 obind (nilC t0) fun t7 =>
 obind (fldP 0 t7) fun t8 =>
 obind (ldCell h t8) fun v9 =>
 obind (avStr v9) fun t9 =>
 obind (nilC t0) fun t11 =>
 obind (fldP 1 t11) fun t12 =>
 obind (ldCell h t12) fun v13 =>
 obind (avInt .i64 v13) fun t13 =>
 obind (nilC t0) fun t15 =>
 obind (fldP 0 t15) fun t16 =>
 obind (ldCell h t16) fun v17 =>
 obind (avStr v17) fun t17 =>
 callN (call 26 [strA t9, .int .i64 t13, .int .i64 (lenS t17), t1] h) fun r20 h_13 =>
 obind (extT 0 r20) fun v21 =>
 obind (avInt .i64 v21) fun t21 =>
 obind (extT 1 r20) fun v22 =>
 obind (avInt .i64 v22) fun _ =>
 obind (nilC t0) fun t23 =>
 obind (fldP 1 t23) fun t24 =>
 obind (stRow h_13 1 [.int .i64 t21] t24) fun h_21 =>
 some (.ret (.tup []), h_21)
theorem lex_lexer_skip_ok {call : CallF} (hc : SaysAll Pg call) {n : Nat} {t0 : AV} {t1 : AV} {h : AHeap} {rR : ARes} {hR : AHeap} (z : lex_lexer_skip call n t0 t1 h = some (rR, hR)) : Says Pg 29 [t0, t1] h rR hR := by
 unfold lex_lexer_skip at z
 refine says_of (fn := Tryd.f29) Tryd.func29 (c := codeOf Tryd.f29) (by kernel_rfl) (by kernel_rfl) (fun w0 m0 => ?_)
 refine W.weaken (l' := [(0, t0), (1, t1)]) (Fr.c (Fr.c Fr.n)) ?_
 refine W.draw (by kernel_rfl) (hc.ok w0) (plan := [0, 1, 2, 3, 4, 5, 6, 7, 8, 9, 10, 11, 12, 13, 14, 15, 16, 17, 18, 19, 20, 21]) (by kernel_rfl) (by kernel_rfl) (by kernel_rfl) ?_
 refine WD.a 0 (some 5) t0 h ?_
 refine WD.a 0 (some 6) t0 h ?_
 replace z := oS z; obtain ⟨t7, e1, z⟩ := z
 refine WD.b 0 (some 7) t7 h (nil_chk (h := h) e1) ?_
 replace z := oS z; obtain ⟨t8, e2, z⟩ := z
 refine WD.b 0 (some 8) t8 h (field_ptr (P := Pg) (h := h) (s := 41) (f := 0) (by kernel_rfl) e2) ?_
 replace z := oS z; obtain ⟨v9, e3, z⟩ := z
 replace z := oS z; obtain ⟨t9, c4, z⟩ := z
 have c4 := avStr_some c4
 subst c4
 refine WD.b 1 (some 9) (strA t9) h (load_cell (P := Pg) (h := h) (t := 9) (by kernel_rfl) e3) ?_
 refine WD.a 0 (some 10) t0 h ?_
 replace z := oS z; obtain ⟨t11, e5, z⟩ := z
 refine WD.b 0 (some 11) t11 h (nil_chk (h := h) e5) ?_
 replace z := oS z; obtain ⟨t12, e6, z⟩ := z
 refine WD.b 0 (some 12) t12 h (field_ptr (P := Pg) (h := h) (s := 41) (f := 1) (by kernel_rfl) e6) ?_
 replace z := oS z; obtain ⟨v13, e7, z⟩ := z
 replace z := oS z; obtain ⟨t13, c8, z⟩ := z
 have c8 := avInt_some c8
 subst c8
 refine WD.b 1 (some 13) (.int .i64 t13) h (load_cell (P := Pg) (h := h) (t := 3) (by kernel_rfl) e7) ?_
 refine WD.a 0 (some 14) t0 h ?_
 replace z := oS z; obtain ⟨t15, e9, z⟩ := z
 refine WD.b 0 (some 15) t15 h (nil_chk (h := h) e9) ?_
 replace z := oS z; obtain ⟨t16, e10, z⟩ := z
 refine WD.b 0 (some 16) t16 h (field_ptr (P := Pg) (h := h) (s := 41) (f := 0) (by kernel_rfl) e10) ?_
 replace z := oS z; obtain ⟨v17, e11, z⟩ := z
 replace z := oS z; obtain ⟨t17, c12, z⟩ := z
 have c12 := avStr_some c12
 subst c12
 refine WD.b 1 (some 17) (strA t17) h (load_cell (P := Pg) (h := h) (t := 9) (by kernel_rfl) e11) ?_
 refine WD.a 0 (some 18) (.int .i64 (lenS t17)) h ?_
 refine WD.a 0 (some 19) t1 h ?_
 replace z := callN_some z; obtain ⟨r20, h_13, e14, z⟩ := z
 refine WD.call (d := (some 20)) (by kernel_rfl) (by kernel_rfl) (by kernel_rfl) e14 (k := 2) (by kernel_rfl) (fun _ => (by kernel_rfl)) (by decide) ?_
 refine WD.a 0 (some 4) r20 h_13 ?_
 replace z := oS z; obtain ⟨v21, e15, z⟩ := z
 replace z := oS z; obtain ⟨t21, c16, z⟩ := z
 have c16 := avInt_some c16
 subst c16
 refine WD.b 0 (some 21) (.int .i64 t21) h_13 (extract_tup (h := h_13) e15) ?_
 replace z := oS z; obtain ⟨v22, e17, z⟩ := z
 replace z := oS z; obtain ⟨t22, c18, z⟩ := z
 have c18 := avInt_some c18
 subst c18
 refine WD.b 0 (some 22) (.int .i64 t22) h_13 (extract_tup (h := h_13) e17) ?_
 replace z := oS z; obtain ⟨t23, e19, z⟩ := z
 refine WD.b 0 (some 23) t23 h_13 (nil_chk (h := h_13) e19) ?_
 replace z := oS z; obtain ⟨t24, e20, z⟩ := z
 refine WD.b 0 (some 24) t24 h_13 (field_ptr (P := Pg) (h := h_13) (s := 41) (f := 1) (by kernel_rfl) e20) ?_
 replace z := oS z; obtain ⟨h_21, e22, z⟩ := z
 refine WD.eff (h' := h_21) (by kernel_rfl) (by kernel_rfl) (Eq.trans (by kernel_rfl) (store_row (P := Pg) (h := h_13) (t := 3) (v := (.int .i64 t21)) (by kernel_rfl) (by kernel_rfl) e22)) (k := 2) (by kernel_rfl) (fun _ => (by kernel_rfl)) (by decide) ?_
 refine WD.nil ?_
 refine Go.weaken (l' := []) Fr.n ?_
 obtain ⟨z, hF2⟩ := ret_inj z; subst z; subst hF2
 exact leaveN_of (rs := []) (vs := []) (by kernel_rfl) res_nil (by kernel_rfl)
noncomputable def lex_lexer_skip_fn (call : CallF) (n : Nat) : FnT := fun args h => match args with
 | [x0, x1] => lex_lexer_skip call n x0 x1 h
 | _ => none
set_option maxRecDepth 100000 in
theorem lex_lexer_skip_fn_eq (call : CallF) (n : Nat) (t0 : AV) (t1 : AV) (h : AHeap) : lex_lexer_skip_fn call n [t0, t1] h = lex_lexer_skip call n t0 t1 h :=
 rfl
theorem lex_lexer_skip_holds {call : CallF} (hc : SaysAll Pg call) (n : Nat) : Holds Pg 29 (lex_lexer_skip_fn call n) := by
 intro args h r h2 e
 unfold lex_lexer_skip_fn at e
 split at e
 ·exact lex_lexer_skip_ok hc e
 ·cases e
noncomputable def lex_lexer_lineEnds (_ : CallF) (_ : Nat) (t0 : AV) (h : AHeap) : R :=
 lett (fun (t2 : Bool) (h_4 : AHeap) =>
  some (.ret (.bool t2), h_4)) fun k3 =>
 obind (nilC t0) fun t4 =>
 obind (fldP 1 t4) fun t5 =>
 obind (ldCell h t5) fun v6 =>
 obind (avInt .i64 v6) fun t6 =>
 obind (nilC t0) fun t8 =>
 obind (fldP 0 t8) fun t9 =>
 obind (ldCell h t9) fun v10 =>
 obind (avStr v10) fun t10 =>
 lett (decide (t6 ≥ (lenS t10))) fun (t12 : Bool) =>
 ifB t12
 (
  k3 true h)
 (
  obind (nilC t0) fun t15 =>
  obind (fldP 0 t15) fun t16 =>
  obind (ldCell h t16) fun v17 =>
  obind (avStr v17) fun t17 =>
  obind (nilC t0) fun t19 =>
  obind (fldP 1 t19) fun t20 =>
  obind (ldCell h t20) fun v21 =>
  obind (avInt .i64 v21) fun t21 =>
  obind (idxS t17 t21) fun t22 =>
  lett ((t22 : Int) == 10) fun (t23 : Bool) =>
  k3 t23 h)
theorem lex_lexer_lineEnds_ok {call : CallF} (hc : SaysAll Pg call) {n : Nat} {t0 : AV} {h : AHeap} {rR : ARes} {hR : AHeap} (z : lex_lexer_lineEnds call n t0 h = some (rR, hR)) : Says Pg 20 [t0] h rR hR := by
 unfold lex_lexer_lineEnds at z
 refine says_of (fn := Tryd.f20) Tryd.func20 (c := codeOf Tryd.f20) (by kernel_rfl) (by kernel_rfl) (fun w0 m0 => ?_)
 refine W.weaken (l' := [(0, t0)]) (Fr.c Fr.n) ?_
 refine W.s (fun _ n1 _ _ _ => ?_)
 refine W.r ?_
 refine WL.a (some 2) (.bool false) h ?_
 refine WL.n ?_
 refine Go.weaken (l' := [(0, t0)]) (Fr.c Fr.n) ?_
 refine n1 ?_
 refine W.s (fun K2 n2 _ _ _ => ?_)
 replace z := lS z; obtain ⟨k3, e3, z⟩ := z
 have J3 : ∀ (t2 : Bool) (h_4 : AHeap), k3 t2 h_4 = some (rR, hR) → Go w0 m0 (Func.ntmps Tryd.f20) (K2 .normal) [(2, .bool t2)] [] h_4 := by
  intro t2 h_4 z
  rw [e3] at z
  refine n2 ?_
  refine W.ret (by kernel_rfl) ?_
  obtain ⟨z, hF2⟩ := ret_inj z; subst z; subst hF2
  exact leave_of (rs := [.tmp 2]) (vs := [.bool t2]) (by kernel_rfl) (res_tmp (by kernel_rfl) res_nil) (by kernel_rfl)
 refine W.draw (by kernel_rfl) (hc.ok w0) (plan := [0, 1, 2, 3, 4, 5, 6, 7, 8, 9, 10, 11, 12, 13, 14, 15, 16, 17, 18, 19, 20, 21, 22]) (by kernel_rfl) (by kernel_rfl) (by kernel_rfl) ?_
 refine WD.a 0 (some 3) t0 h ?_
 replace z := oS z; obtain ⟨t4, e5, z⟩ := z
 refine WD.b 0 (some 4) t4 h (nil_chk (h := h) e5) ?_
 replace z := oS z; obtain ⟨t5, e6, z⟩ := z
 refine WD.b 0 (some 5) t5 h (field_ptr (P := Pg) (h := h) (s := 41) (f := 1) (by kernel_rfl) e6) ?_
 replace z := oS z; obtain ⟨v6, e7, z⟩ := z
 replace z := oS z; obtain ⟨t6, c8, z⟩ := z
 have c8 := avInt_some c8
 subst c8
 refine WD.b 1 (some 6) (.int .i64 t6) h (load_cell (P := Pg) (h := h) (t := 3) (by kernel_rfl) e7) ?_
 refine WD.a 0 (some 7) t0 h ?_
 replace z := oS z; obtain ⟨t8, e9, z⟩ := z
 refine WD.b 0 (some 8) t8 h (nil_chk (h := h) e9) ?_
 replace z := oS z; obtain ⟨t9, e10, z⟩ := z
 refine WD.b 0 (some 9) t9 h (field_ptr (P := Pg) (h := h) (s := 41) (f := 0) (by kernel_rfl) e10) ?_
 replace z := oS z; obtain ⟨v10, e11, z⟩ := z
 replace z := oS z; obtain ⟨t10, c12, z⟩ := z
 have c12 := avStr_some c12
 subst c12
 refine WD.b 1 (some 10) (strA t10) h (load_cell (P := Pg) (h := h) (t := 9) (by kernel_rfl) e11) ?_
 refine WD.a 0 (some 11) (.int .i64 (lenS t10)) h ?_
 replace z := lS z; obtain ⟨t12, e13, z⟩ := z
 refine WD.val (d := (some 12)) (v := .bool t12) (h' := h) (by kernel_rfl) (by kernel_rfl) (val_of AV.bool e13 (by kernel_rfl)) (k := 0) (by kernel_rfl) (fun e => absurd e (by decide)) (by decide) ?_
 refine WD.a 0 (some 13) (.bool t12) h ?_
 cases t12 with
 | true =>
  replace z := ifB_t z
  refine WD.not (d := (some 14)) (by kernel_rfl) (by kernel_rfl) (k := 0) (by kernel_rfl) (fun e => absurd e (by decide)) (by decide) ?_
  refine WD.not (d := (some 15)) (by kernel_rfl) (by kernel_rfl) (k := 0) (by kernel_rfl) (fun e => absurd e (by decide)) (by decide) ?_
  refine WD.not (d := (some 16)) (by kernel_rfl) (by kernel_rfl) (k := 0) (by kernel_rfl) (fun e => absurd e (by decide)) (by decide) ?_
  refine WD.not (d := (some 17)) (by kernel_rfl) (by kernel_rfl) (k := 1) (by kernel_rfl) (fun e => absurd e (by decide)) (by decide) ?_
  refine WD.not (d := (some 18)) (by kernel_rfl) (by kernel_rfl) (k := 0) (by kernel_rfl) (fun e => absurd e (by decide)) (by decide) ?_
  refine WD.not (d := (some 19)) (by kernel_rfl) (by kernel_rfl) (k := 0) (by kernel_rfl) (fun e => absurd e (by decide)) (by decide) ?_
  refine WD.not (d := (some 20)) (by kernel_rfl) (by kernel_rfl) (k := 0) (by kernel_rfl) (fun e => absurd e (by decide)) (by decide) ?_
  refine WD.not (d := (some 21)) (by kernel_rfl) (by kernel_rfl) (k := 1) (by kernel_rfl) (fun e => absurd e (by decide)) (by decide) ?_
  refine WD.not (d := (some 22)) (by kernel_rfl) (by kernel_rfl) (k := 0) (by kernel_rfl) (fun e => absurd e (by decide)) (by decide) ?_
  refine WD.not (d := (some 23)) (by kernel_rfl) (by kernel_rfl) (k := 0) (by kernel_rfl) (fun e => absurd e (by decide)) (by decide) ?_
  refine WD.a 0 (some 24) (.bool true) h ?_
  refine WD.a 0 (some 2) (.bool true) h ?_
  refine WD.nil ?_
  exact Go.weaken (Fr.c Fr.n) (J3 _ _ z)
 | false =>
  replace z := ifB_f z
  refine WD.a 0 (some 14) t0 h ?_
  replace z := oS z; obtain ⟨t15, e14, z⟩ := z
  refine WD.b 0 (some 15) t15 h (nil_chk (h := h) e14) ?_
  replace z := oS z; obtain ⟨t16, e15, z⟩ := z
  refine WD.b 0 (some 16) t16 h (field_ptr (P := Pg) (h := h) (s := 41) (f := 0) (by kernel_rfl) e15) ?_
  replace z := oS z; obtain ⟨v17, e16, z⟩ := z
  replace z := oS z; obtain ⟨t17, c17, z⟩ := z
  have c17 := avStr_some c17
  subst c17
  refine WD.b 1 (some 17) (strA t17) h (load_cell (P := Pg) (h := h) (t := 9) (by kernel_rfl) e16) ?_
  refine WD.a 0 (some 18) t0 h ?_
  replace z := oS z; obtain ⟨t19, e18, z⟩ := z
  refine WD.b 0 (some 19) t19 h (nil_chk (h := h) e18) ?_
  replace z := oS z; obtain ⟨t20, e19, z⟩ := z
  refine WD.b 0 (some 20) t20 h (field_ptr (P := Pg) (h := h) (s := 41) (f := 1) (by kernel_rfl) e19) ?_
  replace z := oS z; obtain ⟨v21, e20, z⟩ := z
  replace z := oS z; obtain ⟨t21, c21, z⟩ := z
  have c21 := avInt_some c21
  subst c21
  refine WD.b 1 (some 21) (.int .i64 t21) h (load_cell (P := Pg) (h := h) (t := 3) (by kernel_rfl) e20) ?_
  replace z := oS z; obtain ⟨t22, e22, z⟩ := z
  refine WD.b 0 (some 22) (.int .u8 t22) h (index_str (P := Pg) (h := h) (t := 9) (k := .i64) (by kernel_rfl) e22) ?_
  replace z := lS z; obtain ⟨t23, e23, z⟩ := z
  refine WD.val (d := (some 23)) (v := .bool t23) (h' := h) (by kernel_rfl) (by kernel_rfl) (val_of AV.bool e23 (by kernel_rfl)) (k := 0) (by kernel_rfl) (fun e => absurd e (by decide)) (by decide) ?_
  refine WD.a 0 (some 24) (.bool t23) h ?_
  refine WD.a 0 (some 2) (.bool t23) h ?_
  refine WD.nil ?_
  exact Go.weaken (Fr.c Fr.n) (J3 _ _ z)
noncomputable def lex_lexer_lineEnds_fn (call : CallF) (n : Nat) : FnT := fun args h => match args with
 | [x0] => lex_lexer_lineEnds call n x0 h
 | _ => none
set_option maxRecDepth 100000 in
theorem lex_lexer_lineEnds_fn_eq (call : CallF) (n : Nat) (t0 : AV) (h : AHeap) : lex_lexer_lineEnds_fn call n [t0] h = lex_lexer_lineEnds call n t0 h :=
 rfl
theorem lex_lexer_lineEnds_holds {call : CallF} (hc : SaysAll Pg call) (n : Nat) : Holds Pg 20 (lex_lexer_lineEnds_fn call n) := by
 intro args h r h2 e
 unfold lex_lexer_lineEnds_fn at e
 split at e
 ·exact lex_lexer_lineEnds_ok hc e
 ·cases e
noncomputable def lex_lexer_token (call : CallF) (_ : Nat) (t0 : AV) (h : AHeap) : R :=
 lett (newH h 27 [.int .i64 0, .int .i64 0]) fun h_2 =>
 obind (nilC t0) fun t8 =>
 obind (fldP 0 t8) fun t9 =>
 obind (ldCell h_2 t9) fun v10 =>
 obind (avStr v10) fun t10 =>
 obind (nilC t0) fun t12 =>
 obind (fldP 1 t12) fun t13 =>
 obind (ldCell h_2 t13) fun v14 =>
 obind (avInt .i64 v14) fun t14 =>
 lett (newH h_2 37 [.int .i64 0, .str 0 0, .int .i64 0, .int .i64 0]) fun h_13 =>
 lett (newH h_13 27 [.int .i64 0, .int .i64 0]) fun h_15 =>
 callN (call 32 [strA t10, .int .i64 t14] h_15) fun r15 h_17 =>
 chk (rowSame h_17 (AHeap.next h_13) 27 [.int .i64 0, .int .i64 0] && (rowSame h_17 (AHeap.next h_2) 37 [.int .i64 0, .str 0 0, .int .i64 0, .int .i64 0] && (true && (true && true)))) <|
 obind (extT 0 r15) fun v16 =>
 obind (avAgg v16) fun t16 =>
 obind (extT 1 r15) fun v17 =>
 obind (avInt .i64 v17) fun t17 =>
 obind (extT 2 r15) fun v18 =>
 obind (avAgg v18) fun t18 =>
 obind (stRow h_17 4 t16 (newP h_2)) fun h_26 =>
 obind (stRow h_26 2 t18 (newP h_13)) fun h_28 =>
 obind (ldCell h_28 (AV.ptr (AHeap.next h_13) 0)) fun v20 =>
 obind (avInt .i64 v20) fun t20 =>
 lett ((t20 : Int) != 0) fun (t21 : Bool) =>
 ifB t21
 (
  obind (ldRow h_28 2 (newP h_13)) fun t22 =>
  obind (stRow h_28 2 t22 (newP h)) fun h_37 =>
  obind (ldRow h_37 2 (newP h)) fun w2 =>
  some (.ret (.agg w2), h_37))
 (
  obind (nilC t0) fun t25 =>
  obind (fldP 1 t25) fun t26 =>
  obind (stRow h_28 1 [.int .i64 t17] t26) fun h_43 =>
  callN (call 20 [t0] h_43) fun r28 h_47 =>
  obind (avBool r28) fun t28 =>
  lett (!t28) fun (t29 : Bool) =>
  lett (fun (t39 : Bool) (h_51 : AHeap) =>
   ifB t39
   (
    obind (stRow h_51 2 ([.int .i64 6, .int .i64 t17] : List AV) (newP h)) fun h_55 =>
    obind (ldRow h_55 2 (newP h)) fun w2_58 =>
    some (.ret (.agg w2_58), h_55))
   (
    obind (nilC t0) fun t44 =>
    obind (fldP 2 t44) fun t45 =>
    obind (ldCell h_51 t45) fun v46 =>
    obind (ldRow h_51 4 (newP h_2)) fun t47 =>
    outK (bldSl Pg h_51 24 1 [(0, .agg t47)]) fun v48 h_64 =>
    chk (true && (reLoad Pg h_64 24 t45 v46 && true)) <|
    outK (opAppend Pg h_64 24 24 v46 v48) fun v49 h_67 =>
    obind (nilC t0) fun t50 =>
    obind (fldP 2 t50) fun t51 =>
    obind (stRow h_67 1 (AV.cells v49) t51) fun h_71 =>
    obind (stRow h_71 2 ([.int .i64 0, .int .i64 0] : List AV) (newP h)) fun h_74 =>
    obind (ldRow h_74 2 (newP h)) fun w2_77 =>
    some (.ret (.agg w2_77), h_74))) fun j39 =>
  ifB t29
  (
   obind (nilC t0) fun t32 =>
   obind (fldP 0 t32) fun t33 =>
   obind (ldCell h_47 t33) fun v34 =>
   obind (avStr v34) fun t34 =>
   obind (idxS t34 t17) fun t36 =>
   callN (call 30 [.int .u8 t36] h_47) fun r37 h_83 =>
   obind (avBool r37) fun t37 =>
   lett (!t37) fun (t38 : Bool) =>
   j39 t38 h_83)
  (
   j39 false h_47))
theorem lex_lexer_token_ok {call : CallF} (hc : SaysAll Pg call) {n : Nat} {t0 : AV} {h : AHeap} {rR : ARes} {hR : AHeap} (z : lex_lexer_token call n t0 h = some (rR, hR)) : Says Pg 21 [t0] h rR hR := by
 unfold lex_lexer_token at z
 refine says_of (fn := Tryd.f21) Tryd.func21 (c := codeOf Tryd.f21) (by kernel_rfl) (by kernel_rfl) (fun w0 m0 => ?_)
 refine W.weaken (l' := [(0, t0)]) (Fr.c Fr.n) ?_
 refine W.s (fun _ n1 _ _ p1 => ?_)
 refine W.r ?_
 replace z := lS z; obtain ⟨h_2, e3, z⟩ := z
 refine WL.val (d := (some 2)) (v := (newP h)) (h' := h_2) (by kernel_rfl) (by kernel_rfl) (val_ofH e3 (by kernel_rfl)) ?_
 refine WL.n ?_
 refine Go.weaken (l' := [(0, t0), (2, newP h)]) (Fr.c (Fr.c Fr.n)) ?_
 refine n1 ?_
 refine W.s (fun _ n4 _ _ _ => ?_)
 refine W.draw (by kernel_rfl) (hc.ok w0) (plan := [0, 1, 2, 3, 4, 5, 6, 7, 13, 14, 8, 9, 10, 11, 12, 15, 16, 17]) (by kernel_rfl) (by kernel_rfl) (by kernel_rfl) ?_
 refine WD.a 0 (some 7) t0 h_2 ?_
 replace z := oS z; obtain ⟨t8, e5, z⟩ := z
 refine WD.b 0 (some 8) t8 h_2 (nil_chk (h := h_2) e5) ?_
 replace z := oS z; obtain ⟨t9, e6, z⟩ := z
 refine WD.b 0 (some 9) t9 h_2 (field_ptr (P := Pg) (h := h_2) (s := 41) (f := 0) (by kernel_rfl) e6) ?_
 replace z := oS z; obtain ⟨v10, e7, z⟩ := z
 replace z := oS z; obtain ⟨t10, c8, z⟩ := z
 have c8 := avStr_some c8
 subst c8
 refine WD.b 1 (some 10) (strA t10) h_2 (load_cell (P := Pg) (h := h_2) (t := 9) (by kernel_rfl) e7) ?_
 refine WD.a 0 (some 11) t0 h_2 ?_
 replace z := oS z; obtain ⟨t12, e9, z⟩ := z
 refine WD.b 0 (some 12) t12 h_2 (nil_chk (h := h_2) e9) ?_
 replace z := oS z; obtain ⟨t13, e10, z⟩ := z
 refine WD.b 0 (some 13) t13 h_2 (field_ptr (P := Pg) (h := h_2) (s := 41) (f := 1) (by kernel_rfl) e10) ?_
 replace z := oS z; obtain ⟨v14, e11, z⟩ := z
 replace z := oS z; obtain ⟨t14, c12, z⟩ := z
 have c12 := avInt_some c12
 subst c12
 refine WD.b 1 (some 14) (.int .i64 t14) h_2 (load_cell (P := Pg) (h := h_2) (t := 3) (by kernel_rfl) e11) ?_
 replace z := lS z; obtain ⟨h_13, e14, z⟩ := z
 refine WD.val (d := (some 3)) (v := (newP h_2)) (h' := h_13) (by kernel_rfl) (by kernel_rfl) (val_ofH e14 (by kernel_rfl)) (k := 1) (by kernel_rfl) (fun e => absurd e (by decide)) (by decide) ?_
 replace z := lS z; obtain ⟨h_15, e16, z⟩ := z
 refine WD.val (d := (some 5)) (v := (newP h_13)) (h' := h_15) (by kernel_rfl) (by kernel_rfl) (val_ofH e16 (by kernel_rfl)) (k := 1) (by kernel_rfl) (fun e => absurd e (by decide)) (by decide) ?_
 replace z := callN_some z; obtain ⟨r15, h_17, e18, z⟩ := z
 replace z := chk_some z; obtain ⟨k19, z⟩ := z
 refine WD.call (d := (some 15)) (by kernel_rfl) (by kernel_rfl) (by kernel_rfl) e18 (k := 2) (by kernel_rfl) (fun _ => (Eq.trans (by kernel_rfl) k19)) (by decide) ?_
 refine WD.a 0 (some 6) r15 h_17 ?_
 replace z := oS z; obtain ⟨v16, e20, z⟩ := z
 replace z := oS z; obtain ⟨t16, c21, z⟩ := z
 have c21 := avAgg_some c21
 subst c21
 refine WD.b 0 (some 16) (.agg t16) h_17 (extract_tup (h := h_17) e20) ?_
 replace z := oS z; obtain ⟨v17, e22, z⟩ := z
 replace z := oS z; obtain ⟨t17, c23, z⟩ := z
 have c23 := avInt_some c23
 subst c23
 refine WD.b 0 (some 17) (.int .i64 t17) h_17 (extract_tup (h := h_17) e22) ?_
 replace z := oS z; obtain ⟨v18, e24, z⟩ := z
 replace z := oS z; obtain ⟨t18, c25, z⟩ := z
 have c25 := avAgg_some c25
 subst c25
 refine WD.b 0 (some 18) (.agg t18) h_17 (extract_tup (h := h_17) e24) ?_
 replace z := oS z; obtain ⟨h_26, e27, z⟩ := z
 refine WD.eff (h' := h_26) (by kernel_rfl) (by kernel_rfl) (Eq.trans (by kernel_rfl) (store_row (P := Pg) (h := h_17) (t := 37) (v := (.agg t16)) (by kernel_rfl) (by kernel_rfl) e27)) (k := 2) (by kernel_rfl) (fun _ => (by kernel_rfl)) (by decide) ?_
 refine WD.a 0 (some 4) (.int .i64 t17) h_26 ?_
 replace z := oS z; obtain ⟨h_28, e29, z⟩ := z
 refine WD.eff (h' := h_28) (by kernel_rfl) (by kernel_rfl) (Eq.trans (by kernel_rfl) (store_row (P := Pg) (h := h_26) (t := 27) (v := (.agg t18)) (by kernel_rfl) (by kernel_rfl) e29)) (k := 2) (by kernel_rfl) (fun _ => (by kernel_rfl)) (by decide) ?_
 refine WD.nil ?_
 refine Go.weaken (l' := [(0, t0), (2, newP h), (3, newP h_2), (4, .int .i64 t17), (5, newP h_13)]) (Fr.c (Fr.c (Fr.c (Fr.c (Fr.c Fr.n))))) ?_
 refine n4 ?_
 refine W.s (fun _ n30 _ q30 _ => ?_)
 refine W.s (fun _ n31 _ _ _ => ?_)
 refine W.r ?_
 refine WL.a (some 19) (AV.ptr (AHeap.next h_13) 0) h_28 ?_
 replace z := oS z; obtain ⟨v20, e32, z⟩ := z
 replace z := oS z; obtain ⟨t20, c33, z⟩ := z
 have c33 := avInt_some c33
 subst c33
 refine WL.b (some 20) (.int .i64 t20) h_28 (load_cell (P := Pg) (h := h_28) (t := 25) (by kernel_rfl) e32) ?_
 replace z := lS z; obtain ⟨t21, e34, z⟩ := z
 refine WL.val (d := (some 21)) (v := .bool t21) (h' := h_28) (by kernel_rfl) (by kernel_rfl) (val_of AV.bool e34 (by kernel_rfl)) ?_
 refine WL.n ?_
 refine Go.weaken (l' := [(0, t0), (2, newP h), (3, newP h_2), (4, .int .i64 t17), (5, newP h_13), (21, .bool t21)]) (Fr.c (Fr.c (Fr.c (Fr.c (Fr.c (Fr.c Fr.n)))))) ?_
 refine n31 ?_
 cases t21 with
 | true =>
  replace z := ifB_t z
  refine W.t ?_
  refine W.s (fun _ n35 _ _ _ => ?_)
  refine W.r ?_
  replace z := oS z; obtain ⟨t22, e36, z⟩ := z
  refine WL.b (some 22) (.agg t22) h_28 (load_row (P := Pg) (h := h_28) (t := 27) (by kernel_rfl) (by kernel_rfl) e36) ?_
  replace z := oS z; obtain ⟨h_37, e38, z⟩ := z
  refine WL.e h_37 (store_row (P := Pg) (h := h_28) (t := 27) (v := (.agg t22)) (by kernel_rfl) (by kernel_rfl) e38) ?_
  refine WL.n ?_
  refine Go.weaken (l' := [(2, newP h)]) (Fr.c Fr.n) ?_
  refine n35 ?_
  refine W.ret (by kernel_rfl) ?_
  refine q30 ?_
  replace z := oS z; obtain ⟨w2, e39, z⟩ := z
  obtain ⟨z, hF2⟩ := ret_inj z; subst z; subst hF2
  exact leave_of (rs := [.cell 2 27]) (vs := [.agg w2]) (by kernel_rfl) (res_cell (by kernel_rfl) (load_row (P := Pg) (h := h_37) (t := 27) (by kernel_rfl) (by kernel_rfl) e39) res_nil) (by kernel_rfl)
 | false =>
  replace z := ifB_f z
  refine W.f ?_
  refine W.skip (by kernel_rfl) ?_
  refine n30 ?_
  refine W.s (fun _ n40 _ _ _ => ?_)
  refine W.r ?_
  refine WL.a (some 23) t0 h_28 ?_
  refine WL.a (some 24) (.int .i64 t17) h_28 ?_
  replace z := oS z; obtain ⟨t25, e41, z⟩ := z
  refine WL.b (some 25) t25 h_28 (nil_chk (h := h_28) e41) ?_
  replace z := oS z; obtain ⟨t26, e42, z⟩ := z
  refine WL.b (some 26) t26 h_28 (field_ptr (P := Pg) (h := h_28) (s := 41) (f := 1) (by kernel_rfl) e42) ?_
  replace z := oS z; obtain ⟨h_43, e44, z⟩ := z
  refine WL.e h_43 (store_row (P := Pg) (h := h_28) (t := 3) (v := (.int .i64 t17)) (by kernel_rfl) (by kernel_rfl) e44) ?_
  refine WL.n ?_
  refine Go.weaken (l' := [(0, t0), (2, newP h), (3, newP h_2), (4, .int .i64 t17)]) (Fr.c (Fr.c (Fr.c (Fr.c Fr.n)))) ?_
  refine n40 ?_
  refine W.s (fun _ n45 _ q45 _ => ?_)
  refine W.s (fun K46 n46 _ _ _ => ?_)
  refine W.r ?_
  refine WL.a (some 27) t0 h_43 ?_
  replace z := callN_some z; obtain ⟨r28, h_47, e48, z⟩ := z
  replace z := oS z; obtain ⟨t28, c49, z⟩ := z
  have c49 := avBool_some c49
  subst c49
  refine WL.c (hc.ok w0) (some 28) e48 ?_
  replace z := lS z; obtain ⟨t29, e50, z⟩ := z
  refine WL.val (d := (some 29)) (v := .bool t29) (h' := h_47) (by kernel_rfl) (by kernel_rfl) (val_of AV.bool e50 (by kernel_rfl)) ?_
  refine WL.a (some 30) (.bool t29) h_47 ?_
  replace z := lS z; obtain ⟨j39, e52, z⟩ := z
  have J53 : ∀ (t39 : Bool) (h_51 : AHeap), j39 t39 h_51 = some (rR, hR) → WL Pg w0 m0 (Func.ntmps Tryd.f21) (Code.ops (Code.p1 (Code.p1 (Code.p2 (Code.p2 (Code.p2 (Code.p2 (codeOf Tryd.f21)))))))) 13 K46 [(0, t0), (2, newP h), (3, newP h_2), (4, .int .i64 t17), (39, .bool t39)] [] h_51 := by
   intro t39 h_51 z
   rw [e52] at z
   refine WL.n ?_
   refine Go.weaken (l' := [(0, t0), (2, newP h), (3, newP h_2), (4, .int .i64 t17), (39, .bool t39)]) (Fr.c (Fr.c (Fr.c (Fr.c (Fr.c Fr.n))))) ?_
   refine n46 ?_
   cases t39 with
   | true =>
    replace z := ifB_t z
    refine W.t ?_
    refine W.s (fun _ n54 _ _ _ => ?_)
    refine W.r ?_
    refine WL.a (some 40) (.int .i64 t17) h_51 ?_
    refine WL.a (some 41) (.agg ([.int .i64 6, .int .i64 t17] : List AV)) h_51 ?_
    replace z := oS z; obtain ⟨h_55, e56, z⟩ := z
    refine WL.e h_55 (store_row (P := Pg) (h := h_51) (t := 27) (v := (.agg ([.int .i64 6, .int .i64 t17] : List AV))) (by kernel_rfl) (by kernel_rfl) e56) ?_
    refine WL.n ?_
    refine Go.weaken (l' := [(2, newP h)]) (Fr.c Fr.n) ?_
    refine n54 ?_
    refine W.ret (by kernel_rfl) ?_
    refine q45 ?_
    replace z := oS z; obtain ⟨w2_58, e57, z⟩ := z
    obtain ⟨z, hF2⟩ := ret_inj z; subst z; subst hF2
    exact leave_of (rs := [.cell 2 27]) (vs := [.agg w2_58]) (by kernel_rfl) (res_cell (by kernel_rfl) (load_row (P := Pg) (h := h_55) (t := 27) (by kernel_rfl) (by kernel_rfl) e57) res_nil) (by kernel_rfl)
   | false =>
    replace z := ifB_f z
    refine W.f ?_
    refine W.skip (by kernel_rfl) ?_
    refine n45 ?_
    refine W.s (fun _ n59 _ _ _ => ?_)
    refine W.draw (by kernel_rfl) (hc.ok w0) (plan := [0, 1, 2, 3, 4, 5, 6, 7, 8, 9, 10]) (by kernel_rfl) (by kernel_rfl) (by kernel_rfl) ?_
    refine WD.a 0 (some 42) t0 h_51 ?_
    refine WD.a 0 (some 43) t0 h_51 ?_
    replace z := oS z; obtain ⟨t44, e60, z⟩ := z
    refine WD.b 0 (some 44) t44 h_51 (nil_chk (h := h_51) e60) ?_
    replace z := oS z; obtain ⟨t45, e61, z⟩ := z
    refine WD.b 0 (some 45) t45 h_51 (field_ptr (P := Pg) (h := h_51) (s := 41) (f := 2) (by kernel_rfl) e61) ?_
    replace z := oS z; obtain ⟨v46, e62, z⟩ := z
    refine WD.b 1 (some 46) v46 h_51 (load_cell (P := Pg) (h := h_51) (t := 24) (by kernel_rfl) e62) ?_
    replace z := oS z; obtain ⟨t47, e63, z⟩ := z
    refine WD.b 1 (some 47) (.agg t47) h_51 (load_row (P := Pg) (h := h_51) (t := 37) (by kernel_rfl) (by kernel_rfl) e63) ?_
    replace z := outK_some z; obtain ⟨v48, h_64, e65, z⟩ := z
    replace z := chk_some z; obtain ⟨k66, z⟩ := z
    refine WD.val (d := (some 48)) (v := v48) (h' := h_64) (by kernel_rfl) (by kernel_rfl) (Eq.trans (by kernel_rfl) e65) (k := 2) (by kernel_rfl) (fun _ => (Eq.trans (by kernel_rfl) k66)) (by decide) ?_
    replace z := outK_some z; obtain ⟨v49, h_67, e68, z⟩ := z
    refine WD.val (d := (some 49)) (v := v49) (h' := h_67) (by kernel_rfl) (by kernel_rfl) (Eq.trans (by kernel_rfl) e68) (k := 2) (by kernel_rfl) (fun _ => (by kernel_rfl)) (by decide) ?_
    replace z := oS z; obtain ⟨t50, e69, z⟩ := z
    refine WD.b 0 (some 50) t50 h_67 (nil_chk (h := h_67) e69) ?_
    replace z := oS z; obtain ⟨t51, e70, z⟩ := z
    refine WD.b 0 (some 51) t51 h_67 (field_ptr (P := Pg) (h := h_67) (s := 41) (f := 2) (by kernel_rfl) e70) ?_
    replace z := oS z; obtain ⟨h_71, e72, z⟩ := z
    refine WD.eff (h' := h_71) (by kernel_rfl) (by kernel_rfl) (Eq.trans (by kernel_rfl) (store_row (P := Pg) (h := h_67) (t := 24) (v := v49) (by kernel_rfl) (by kernel_rfl) e72)) (k := 2) (by kernel_rfl) (fun _ => (by kernel_rfl)) (by decide) ?_
    refine WD.nil ?_
    refine Go.weaken (l' := [(2, newP h)]) (Fr.c Fr.n) ?_
    refine n59 ?_
    refine W.s (fun _ n73 _ _ _ => ?_)
    refine W.r ?_
    refine WL.a (some 52) (.agg ([.int .i64 0, .int .i64 0] : List AV)) h_71 ?_
    replace z := oS z; obtain ⟨h_74, e75, z⟩ := z
    refine WL.e h_74 (store_row (P := Pg) (h := h_71) (t := 27) (v := (.agg ([.int .i64 0, .int .i64 0] : List AV))) (by kernel_rfl) (by kernel_rfl) e75) ?_
    refine WL.n ?_
    refine Go.weaken (l' := [(2, newP h)]) (Fr.c Fr.n) ?_
    refine n73 ?_
    refine W.ret (by kernel_rfl) ?_
    replace z := oS z; obtain ⟨w2_77, e76, z⟩ := z
    obtain ⟨z, hF2⟩ := ret_inj z; subst z; subst hF2
    exact leave_of (rs := [.cell 2 27]) (vs := [.agg w2_77]) (by kernel_rfl) (res_cell (by kernel_rfl) (load_row (P := Pg) (h := h_74) (t := 27) (by kernel_rfl) (by kernel_rfl) e76) res_nil) (by kernel_rfl)
  cases t29 with
  | true =>
   replace z := ifB_t z
   refine WL.a (some 31) t0 h_47 ?_
   replace z := oS z; obtain ⟨t32, e78, z⟩ := z
   refine WL.b (some 32) t32 h_47 (nil_chk (h := h_47) e78) ?_
   replace z := oS z; obtain ⟨t33, e79, z⟩ := z
   refine WL.b (some 33) t33 h_47 (field_ptr (P := Pg) (h := h_47) (s := 41) (f := 0) (by kernel_rfl) e79) ?_
   replace z := oS z; obtain ⟨v34, e80, z⟩ := z
   replace z := oS z; obtain ⟨t34, c81, z⟩ := z
   have c81 := avStr_some c81
   subst c81
   refine WL.b (some 34) (strA t34) h_47 (load_cell (P := Pg) (h := h_47) (t := 9) (by kernel_rfl) e80) ?_
   refine WL.a (some 35) (.int .i64 t17) h_47 ?_
   replace z := oS z; obtain ⟨t36, e82, z⟩ := z
   refine WL.b (some 36) (.int .u8 t36) h_47 (index_str (P := Pg) (h := h_47) (t := 9) (k := .i64) (by kernel_rfl) e82) ?_
   replace z := callN_some z; obtain ⟨r37, h_83, e84, z⟩ := z
   replace z := oS z; obtain ⟨t37, c85, z⟩ := z
   have c85 := avBool_some c85
   subst c85
   refine WL.c (hc.ok w0) (some 37) e84 ?_
   replace z := lS z; obtain ⟨t38, e86, z⟩ := z
   refine WL.val (d := (some 38)) (v := .bool t38) (h' := h_83) (by kernel_rfl) (by kernel_rfl) (val_of AV.bool e86 (by kernel_rfl)) ?_
   refine WL.a (some 39) (.bool t38) h_83 ?_
   exact WL.weaken (Fr.c (Fr.c (Fr.c (Fr.c (Fr.c Fr.n))))) (J53 _ _ z)
  | false =>
   replace z := ifB_f z
   refine WL.o (some 31) ?_
   refine WL.o (some 32) ?_
   refine WL.o (some 33) ?_
   refine WL.o (some 34) ?_
   refine WL.o (some 35) ?_
   refine WL.o (some 36) ?_
   refine WL.o (some 37) ?_
   refine WL.o (some 38) ?_
   refine WL.a (some 39) (.bool false) h_47 ?_
   exact WL.weaken (Fr.c (Fr.c (Fr.c (Fr.c (Fr.c Fr.n))))) (J53 _ _ z)
noncomputable def lex_lexer_token_fn (call : CallF) (n : Nat) : FnT := fun args h => match args with
 | [x0] => lex_lexer_token call n x0 h
 | _ => none
set_option maxRecDepth 100000 in
theorem lex_lexer_token_fn_eq (call : CallF) (n : Nat) (t0 : AV) (h : AHeap) : lex_lexer_token_fn call n [t0] h = lex_lexer_token call n t0 h :=
 rfl
theorem lex_lexer_token_holds {call : CallF} (hc : SaysAll Pg call) (n : Nat) : Holds Pg 21 (lex_lexer_token_fn call n) := by
 intro args h r h2 e
 unfold lex_lexer_token_fn at e
 split at e
 ·exact lex_lexer_token_ok hc e
 ·cases e
noncomputable def lex_read (call : CallF) (_ : Nat) (t0 : Bytes) (t1 : Int) (h : AHeap) : R :=
 lett (newH h 37 [.int .i64 0, .str 0 0, .int .i64 0, .int .i64 0]) fun h_2 =>
 lett (newH h_2 27 [.int .i64 0, .int .i64 0]) fun h_4 =>
 obind (idxS t0 t1) fun t10 =>
 callN (call 16 [.int .u8 t10] h_4) fun r13 h_11 =>
 obind (avBool r13) fun t13 =>
 ifB t13
 (
  callN (call 38 [strA t0, .int .i64 t1] h_11) fun r16 h_15 =>
  obind (extT 0 r16) fun v17 =>
  obind (avAgg v17) fun t17 =>
  obind (extT 1 r16) fun v18 =>
  obind (avInt .i64 v18) fun t18 =>
  obind (extT 2 r16) fun v19 =>
  obind (avAgg v19) fun t19 =>
  obind (stRow h_15 4 t17 (newP h)) fun h_23 =>
  obind (stRow h_23 2 t19 (newP h_2)) fun h_25 =>
  obind (ldRow h_25 4 (newP h)) fun w4 =>
  obind (ldRow h_25 2 (newP h_2)) fun w6 =>
  some (.ret (.tup [.agg w4, .int .i64 t18, .agg w6]), h_25))
 (
  callN (call 28 [.int .u8 t10] h_11) fun r22 h_30 =>
  obind (avBool r22) fun t22 =>
  ifB t22
  (
   callN (call 39 [strA t0, .int .i64 t1] h_30) fun r25 h_34 =>
   obind (extT 0 r25) fun v26 =>
   obind (avAgg v26) fun t26 =>
   obind (extT 1 r25) fun v27 =>
   obind (avInt .i64 v27) fun t27 =>
   obind (extT 2 r25) fun v28 =>
   obind (avAgg v28) fun t28 =>
   obind (stRow h_34 4 t26 (newP h)) fun h_42 =>
   obind (stRow h_42 2 t28 (newP h_2)) fun h_44 =>
   obind (ldRow h_44 4 (newP h)) fun w4_47 =>
   obind (ldRow h_44 2 (newP h_2)) fun w6_49 =>
   some (.ret (.tup [.agg w4_47, .int .i64 t27, .agg w6_49]), h_44))
  (
   lett ((t10 : Int) == 34) fun (t31 : Bool) =>
   ifB t31
   (
    callN (call 40 [strA t0, .int .i64 t1] h_30) fun r34 h_53 =>
    obind (extT 0 r34) fun v35 =>
    obind (avAgg v35) fun t35 =>
    obind (extT 1 r34) fun v36 =>
    obind (avInt .i64 v36) fun t36 =>
    obind (extT 2 r34) fun v37 =>
    obind (avAgg v37) fun t37 =>
    obind (stRow h_53 4 t35 (newP h)) fun h_61 =>
    obind (stRow h_61 2 t37 (newP h_2)) fun h_63 =>
    obind (ldRow h_63 4 (newP h)) fun w4_66 =>
    obind (ldRow h_63 2 (newP h_2)) fun w6_68 =>
    some (.ret (.tup [.agg w4_66, .int .i64 t36, .agg w6_68]), h_63))
   (
    lett ((t10 : Int) == 60) fun (t40 : Bool) =>
    lett (fun (t44 : Bool) (h_71 : AHeap) =>
     lett (fun (t48 : Bool) (h_74 : AHeap) =>
      ifB t48
      (
       lett (IntKind.i64.wrap (t1 + 1)) fun (t52 : Int) =>
       obind (sliceS t0 t1 t52) fun t53 =>
       lett (IntKind.i64.wrap (t1 + 1)) fun (t57 : Int) =>
       obind (stRow h_74 4 ([.int .i64 5, strA t53, .int .i64 0, .int .i64 t1] : List AV) (newP h)) fun h_81 =>
       obind (stRow h_81 2 ([.int .i64 0, .int .i64 0] : List AV) (newP h_2)) fun h_83 =>
       obind (ldRow h_83 4 (newP h)) fun w4_86 =>
       obind (ldRow h_83 2 (newP h_2)) fun w6_88 =>
       some (.ret (.tup [.agg w4_86, .int .i64 t57, .agg w6_88]), h_83))
      (
       obind (stRow h_74 4 ([.int .i64 0, .str 0 0, .int .i64 0, .int .i64 0] : List AV) (newP h)) fun h_90 =>
       obind (stRow h_90 2 ([.int .i64 6, .int .i64 t1] : List AV) (newP h_2)) fun h_92 =>
       obind (ldRow h_92 4 (newP h)) fun w4_95 =>
       obind (ldRow h_92 2 (newP h_2)) fun w6_97 =>
       some (.ret (.tup [.agg w4_95, .int .i64 0, .agg w6_97]), h_92))) fun j48 =>
     ifB t44
     (
      j48 true h_71)
     (
      lett ((t10 : Int) == 125) fun (t47 : Bool) =>
      j48 t47 h_71)) fun j44 =>
    ifB t40
    (
     j44 true h_30)
    (
     lett ((t10 : Int) == 123) fun (t43 : Bool) =>
     j44 t43 h_30))))
theorem lex_read_ok {call : CallF} (hc : SaysAll Pg call) {n : Nat} {t0 : Bytes} {t1 : Int} {h : AHeap} {rR : ARes} {hR : AHeap} (z : lex_read call n t0 t1 h = some (rR, hR)) : Says Pg 32 [strA t0, .int .i64 t1] h rR hR := by
 unfold lex_read at z
 refine says_of (fn := Tryd.f32) Tryd.func32 (c := codeOf Tryd.f32) (by kernel_rfl) (by kernel_rfl) (fun w0 m0 => ?_)
 refine W.weaken (l' := [(0, strA t0), (1, .int .i64 t1)]) (Fr.c (Fr.c Fr.n)) ?_
 refine W.s (fun _ n1 _ _ p1 => ?_)
 refine W.r ?_
 replace z := lS z; obtain ⟨h_2, e3, z⟩ := z
 refine WL.val (d := (some 4)) (v := (newP h)) (h' := h_2) (by kernel_rfl) (by kernel_rfl) (val_ofH e3 (by kernel_rfl)) ?_
 refine WL.a (some 5) (.int .i64 0) h_2 ?_
 replace z := lS z; obtain ⟨h_4, e5, z⟩ := z
 refine WL.val (d := (some 6)) (v := (newP h_2)) (h' := h_4) (by kernel_rfl) (by kernel_rfl) (val_ofH e5 (by kernel_rfl)) ?_
 refine WL.n ?_
 refine Go.weaken (l' := [(0, strA t0), (1, .int .i64 t1), (4, newP h), (6, newP h_2)]) (Fr.c (Fr.c (Fr.c (Fr.c Fr.n)))) ?_
 refine n1 ?_
 refine W.s (fun _ n6 _ q6 _ => ?_)
 refine W.s (fun _ n7 _ _ _ => ?_)
 refine W.r ?_
 refine WL.a (some 8) (strA t0) h_4 ?_
 refine WL.a (some 9) (.int .i64 t1) h_4 ?_
 replace z := oS z; obtain ⟨t10, e8, z⟩ := z
 refine WL.b (some 10) (.int .u8 t10) h_4 (index_str (P := Pg) (h := h_4) (t := 9) (k := .i64) (by kernel_rfl) e8) ?_
 refine WL.a (some 7) (.int .u8 t10) h_4 ?_
 refine WL.n ?_
 refine Go.weaken (l' := [(0, strA t0), (1, .int .i64 t1), (4, newP h), (6, newP h_2), (7, .int .u8 t10)]) (Fr.c (Fr.c (Fr.c (Fr.c (Fr.c Fr.n))))) ?_
 refine n7 ?_
 refine W.blockK (by kernel_rfl) (fun K9 n9 s9 o9 q9 p9 => ?_)
 refine W.s (fun _ n10 _ _ _ => ?_)
 refine W.r ?_
 refine WL.a (some 12) (.int .u8 t10) h_4 ?_
 replace z := callN_some z; obtain ⟨r13, h_11, e12, z⟩ := z
 replace z := oS z; obtain ⟨t13, c13, z⟩ := z
 have c13 := avBool_some c13
 subst c13
 refine WL.c (hc.ok w0) (some 13) e12 ?_
 refine WL.a (some 11) (.bool t13) h_11 ?_
 refine WL.n ?_
 refine Go.weaken (l' := [(0, strA t0), (1, .int .i64 t1), (4, newP h), (6, newP h_2), (7, .int .u8 t10), (11, .bool t13)]) (Fr.c (Fr.c (Fr.c (Fr.c (Fr.c (Fr.c Fr.n)))))) ?_
 refine n10 ?_
 cases t13 with
 | true =>
  replace z := ifB_t z
  refine W.t ?_
  refine W.s (fun _ n14 _ _ _ => ?_)
  refine W.r ?_
  refine WL.a (some 14) (strA t0) h_11 ?_
  refine WL.a (some 15) (.int .i64 t1) h_11 ?_
  replace z := callN_some z; obtain ⟨r16, h_15, e16, z⟩ := z
  refine WL.c (hc.ok w0) (some 16) e16 ?_
  replace z := oS z; obtain ⟨v17, e17, z⟩ := z
  replace z := oS z; obtain ⟨t17, c18, z⟩ := z
  have c18 := avAgg_some c18
  subst c18
  refine WL.b (some 17) (.agg t17) h_15 (extract_tup (h := h_15) e17) ?_
  replace z := oS z; obtain ⟨v18, e19, z⟩ := z
  replace z := oS z; obtain ⟨t18, c20, z⟩ := z
  have c20 := avInt_some c20
  subst c20
  refine WL.b (some 18) (.int .i64 t18) h_15 (extract_tup (h := h_15) e19) ?_
  replace z := oS z; obtain ⟨v19, e21, z⟩ := z
  replace z := oS z; obtain ⟨t19, c22, z⟩ := z
  have c22 := avAgg_some c22
  subst c22
  refine WL.b (some 19) (.agg t19) h_15 (extract_tup (h := h_15) e21) ?_
  replace z := oS z; obtain ⟨h_23, e24, z⟩ := z
  refine WL.e h_23 (store_row (P := Pg) (h := h_15) (t := 37) (v := (.agg t17)) (by kernel_rfl) (by kernel_rfl) e24) ?_
  refine WL.a (some 5) (.int .i64 t18) h_23 ?_
  replace z := oS z; obtain ⟨h_25, e26, z⟩ := z
  refine WL.e h_25 (store_row (P := Pg) (h := h_23) (t := 27) (v := (.agg t19)) (by kernel_rfl) (by kernel_rfl) e26) ?_
  refine WL.n ?_
  refine Go.weaken (l' := [(4, newP h), (5, .int .i64 t18), (6, newP h_2)]) (Fr.c (Fr.c (Fr.c Fr.n))) ?_
  refine n14 ?_
  refine W.ret (by kernel_rfl) ?_
  refine q9 ?_
  refine q6 ?_
  replace z := oS z; obtain ⟨w4, e27, z⟩ := z
  replace z := oS z; obtain ⟨w6, e28, z⟩ := z
  obtain ⟨z, hF2⟩ := ret_inj z; subst z; subst hF2
  exact leave_of (rs := [.cell 4 37, .tmp 5, .cell 6 27]) (vs := [.agg w4, .int .i64 t18, .agg w6]) (by kernel_rfl) (res_cell (by kernel_rfl) (load_row (P := Pg) (h := h_25) (t := 37) (by kernel_rfl) (by kernel_rfl) e27) (res_tmp (by kernel_rfl) (res_cell (by kernel_rfl) (load_row (P := Pg) (h := h_25) (t := 27) (by kernel_rfl) (by kernel_rfl) e28) res_nil))) (by kernel_rfl)
 | false =>
  replace z := ifB_f z
  refine W.f ?_
  refine W.s (fun _ n29 _ _ _ => ?_)
  refine W.r ?_
  refine WL.a (some 21) (.int .u8 t10) h_11 ?_
  replace z := callN_some z; obtain ⟨r22, h_30, e31, z⟩ := z
  replace z := oS z; obtain ⟨t22, c32, z⟩ := z
  have c32 := avBool_some c32
  subst c32
  refine WL.c (hc.ok w0) (some 22) e31 ?_
  refine WL.a (some 20) (.bool t22) h_30 ?_
  refine WL.n ?_
  refine Go.weaken (l' := [(0, strA t0), (1, .int .i64 t1), (4, newP h), (6, newP h_2), (7, .int .u8 t10), (20, .bool t22)]) (Fr.c (Fr.c (Fr.c (Fr.c (Fr.c (Fr.c Fr.n)))))) ?_
  refine n29 ?_
  cases t22 with
  | true =>
   replace z := ifB_t z
   refine W.t ?_
   refine W.s (fun _ n33 _ _ _ => ?_)
   refine W.r ?_
   refine WL.a (some 23) (strA t0) h_30 ?_
   refine WL.a (some 24) (.int .i64 t1) h_30 ?_
   replace z := callN_some z; obtain ⟨r25, h_34, e35, z⟩ := z
   refine WL.c (hc.ok w0) (some 25) e35 ?_
   replace z := oS z; obtain ⟨v26, e36, z⟩ := z
   replace z := oS z; obtain ⟨t26, c37, z⟩ := z
   have c37 := avAgg_some c37
   subst c37
   refine WL.b (some 26) (.agg t26) h_34 (extract_tup (h := h_34) e36) ?_
   replace z := oS z; obtain ⟨v27, e38, z⟩ := z
   replace z := oS z; obtain ⟨t27, c39, z⟩ := z
   have c39 := avInt_some c39
   subst c39
   refine WL.b (some 27) (.int .i64 t27) h_34 (extract_tup (h := h_34) e38) ?_
   replace z := oS z; obtain ⟨v28, e40, z⟩ := z
   replace z := oS z; obtain ⟨t28, c41, z⟩ := z
   have c41 := avAgg_some c41
   subst c41
   refine WL.b (some 28) (.agg t28) h_34 (extract_tup (h := h_34) e40) ?_
   replace z := oS z; obtain ⟨h_42, e43, z⟩ := z
   refine WL.e h_42 (store_row (P := Pg) (h := h_34) (t := 37) (v := (.agg t26)) (by kernel_rfl) (by kernel_rfl) e43) ?_
   refine WL.a (some 5) (.int .i64 t27) h_42 ?_
   replace z := oS z; obtain ⟨h_44, e45, z⟩ := z
   refine WL.e h_44 (store_row (P := Pg) (h := h_42) (t := 27) (v := (.agg t28)) (by kernel_rfl) (by kernel_rfl) e45) ?_
   refine WL.n ?_
   refine Go.weaken (l' := [(4, newP h), (5, .int .i64 t27), (6, newP h_2)]) (Fr.c (Fr.c (Fr.c Fr.n))) ?_
   refine n33 ?_
   refine W.ret (by kernel_rfl) ?_
   refine q9 ?_
   refine q6 ?_
   replace z := oS z; obtain ⟨w4_47, e46, z⟩ := z
   replace z := oS z; obtain ⟨w6_49, e48, z⟩ := z
   obtain ⟨z, hF2⟩ := ret_inj z; subst z; subst hF2
   exact leave_of (rs := [.cell 4 37, .tmp 5, .cell 6 27]) (vs := [.agg w4_47, .int .i64 t27, .agg w6_49]) (by kernel_rfl) (res_cell (by kernel_rfl) (load_row (P := Pg) (h := h_44) (t := 37) (by kernel_rfl) (by kernel_rfl) e46) (res_tmp (by kernel_rfl) (res_cell (by kernel_rfl) (load_row (P := Pg) (h := h_44) (t := 27) (by kernel_rfl) (by kernel_rfl) e48) res_nil))) (by kernel_rfl)
  | false =>
   replace z := ifB_f z
   refine W.f ?_
   refine W.s (fun _ n50 _ _ _ => ?_)
   refine W.r ?_
   refine WL.a (some 30) (.int .u8 t10) h_30 ?_
   replace z := lS z; obtain ⟨t31, e51, z⟩ := z
   refine WL.val (d := (some 31)) (v := .bool t31) (h' := h_30) (by kernel_rfl) (by kernel_rfl) (val_of AV.bool e51 (by kernel_rfl)) ?_
   refine WL.a (some 29) (.bool t31) h_30 ?_
   refine WL.n ?_
   refine Go.weaken (l' := [(0, strA t0), (1, .int .i64 t1), (4, newP h), (6, newP h_2), (7, .int .u8 t10), (29, .bool t31)]) (Fr.c (Fr.c (Fr.c (Fr.c (Fr.c (Fr.c Fr.n)))))) ?_
   refine n50 ?_
   cases t31 with
   | true =>
    replace z := ifB_t z
    refine W.t ?_
    refine W.s (fun _ n52 _ _ _ => ?_)
    refine W.r ?_
    refine WL.a (some 32) (strA t0) h_30 ?_
    refine WL.a (some 33) (.int .i64 t1) h_30 ?_
    replace z := callN_some z; obtain ⟨r34, h_53, e54, z⟩ := z
    refine WL.c (hc.ok w0) (some 34) e54 ?_
    replace z := oS z; obtain ⟨v35, e55, z⟩ := z
    replace z := oS z; obtain ⟨t35, c56, z⟩ := z
    have c56 := avAgg_some c56
    subst c56
    refine WL.b (some 35) (.agg t35) h_53 (extract_tup (h := h_53) e55) ?_
    replace z := oS z; obtain ⟨v36, e57, z⟩ := z
    replace z := oS z; obtain ⟨t36, c58, z⟩ := z
    have c58 := avInt_some c58
    subst c58
    refine WL.b (some 36) (.int .i64 t36) h_53 (extract_tup (h := h_53) e57) ?_
    replace z := oS z; obtain ⟨v37, e59, z⟩ := z
    replace z := oS z; obtain ⟨t37, c60, z⟩ := z
    have c60 := avAgg_some c60
    subst c60
    refine WL.b (some 37) (.agg t37) h_53 (extract_tup (h := h_53) e59) ?_
    replace z := oS z; obtain ⟨h_61, e62, z⟩ := z
    refine WL.e h_61 (store_row (P := Pg) (h := h_53) (t := 37) (v := (.agg t35)) (by kernel_rfl) (by kernel_rfl) e62) ?_
    refine WL.a (some 5) (.int .i64 t36) h_61 ?_
    replace z := oS z; obtain ⟨h_63, e64, z⟩ := z
    refine WL.e h_63 (store_row (P := Pg) (h := h_61) (t := 27) (v := (.agg t37)) (by kernel_rfl) (by kernel_rfl) e64) ?_
    refine WL.n ?_
    refine Go.weaken (l' := [(4, newP h), (5, .int .i64 t36), (6, newP h_2)]) (Fr.c (Fr.c (Fr.c Fr.n))) ?_
    refine n52 ?_
    refine W.ret (by kernel_rfl) ?_
    refine q9 ?_
    refine q6 ?_
    replace z := oS z; obtain ⟨w4_66, e65, z⟩ := z
    replace z := oS z; obtain ⟨w6_68, e67, z⟩ := z
    obtain ⟨z, hF2⟩ := ret_inj z; subst z; subst hF2
    exact leave_of (rs := [.cell 4 37, .tmp 5, .cell 6 27]) (vs := [.agg w4_66, .int .i64 t36, .agg w6_68]) (by kernel_rfl) (res_cell (by kernel_rfl) (load_row (P := Pg) (h := h_63) (t := 37) (by kernel_rfl) (by kernel_rfl) e65) (res_tmp (by kernel_rfl) (res_cell (by kernel_rfl) (load_row (P := Pg) (h := h_63) (t := 27) (by kernel_rfl) (by kernel_rfl) e67) res_nil))) (by kernel_rfl)
   | false =>
    replace z := ifB_f z
    refine W.f ?_
    refine W.s (fun K69 n69 _ _ _ => ?_)
    refine W.r ?_
    refine WL.a (some 39) (.int .u8 t10) h_30 ?_
    replace z := lS z; obtain ⟨t40, e70, z⟩ := z
    refine WL.val (d := (some 40)) (v := .bool t40) (h' := h_30) (by kernel_rfl) (by kernel_rfl) (val_of AV.bool e70 (by kernel_rfl)) ?_
    refine WL.a (some 41) (.bool t40) h_30 ?_
    replace z := lS z; obtain ⟨j44, e72, z⟩ := z
    have J73 : ∀ (t44 : Bool) (h_71 : AHeap), j44 t44 h_71 = some (rR, hR) → WL Pg w0 m0 (Func.ntmps Tryd.f32) (Code.ops (Code.p1 (Code.p2 (Code.p2 (Code.p2 (Code.p2 (Code.p2 (Code.p2 (Code.p1 (Code.p2 (Code.p1 (Code.p2 (codeOf Tryd.f32))))))))))))) 6 K69 [(0, strA t0), (1, .int .i64 t1), (4, newP h), (6, newP h_2), (7, .int .u8 t10), (44, .bool t44)] [] h_71 := by
     intro t44 h_71 z
     rw [e72] at z
     refine WL.a (some 45) (.bool t44) h_71 ?_
     replace z := lS z; obtain ⟨j48, e75, z⟩ := z
     have J76 : ∀ (t48 : Bool) (h_74 : AHeap), j48 t48 h_74 = some (rR, hR) → WL Pg w0 m0 (Func.ntmps Tryd.f32) (Code.ops (Code.p1 (Code.p2 (Code.p2 (Code.p2 (Code.p2 (Code.p2 (Code.p2 (Code.p1 (Code.p2 (Code.p1 (Code.p2 (codeOf Tryd.f32))))))))))))) 10 K69 [(0, strA t0), (1, .int .i64 t1), (4, newP h), (6, newP h_2), (48, .bool t48)] [] h_74 := by
      intro t48 h_74 z
      rw [e75] at z
      refine WL.a (some 38) (.bool t48) h_74 ?_
      refine WL.n ?_
      refine Go.weaken (l' := [(0, strA t0), (1, .int .i64 t1), (4, newP h), (6, newP h_2), (38, .bool t48)]) (Fr.c (Fr.c (Fr.c (Fr.c (Fr.c Fr.n))))) ?_
      refine n69 ?_
      cases t48 with
      | true =>
       replace z := ifB_t z
       refine W.t ?_
       refine W.s (fun _ n77 _ _ _ => ?_)
       refine W.r ?_
       refine WL.a (some 49) (strA t0) h_74 ?_
       refine WL.a (some 50) (.int .i64 t1) h_74 ?_
       refine WL.a (some 51) (.int .i64 t1) h_74 ?_
       replace z := lS z; obtain ⟨t52, e78, z⟩ := z
       refine WL.val (d := (some 52)) (v := .int .i64 t52) (h' := h_74) (by kernel_rfl) (by kernel_rfl) (val_of (AV.int .i64) e78 (by kernel_rfl)) ?_
       replace z := oS z; obtain ⟨t53, e79, z⟩ := z
       refine WL.b (some 53) (strA t53) h_74 (slice_str (P := Pg) (h := h_74) (t := 9) (A := (some (.int .i64 t1))) (B := (some (.int .i64 t52))) (by kernel_rfl) (.inl ⟨_, rfl⟩) (.inl ⟨_, rfl⟩) e79) ?_
       refine WL.a (some 54) (.int .i64 t1) h_74 ?_
       refine WL.a (some 55) (.agg ([.int .i64 5, strA t53, .int .i64 0, .int .i64 t1] : List AV)) h_74 ?_
       refine WL.a (some 56) (.int .i64 t1) h_74 ?_
       replace z := lS z; obtain ⟨t57, e80, z⟩ := z
       refine WL.val (d := (some 57)) (v := .int .i64 t57) (h' := h_74) (by kernel_rfl) (by kernel_rfl) (val_of (AV.int .i64) e80 (by kernel_rfl)) ?_
       refine WL.a (some 58) (.agg ([.int .i64 0, .int .i64 0] : List AV)) h_74 ?_
       replace z := oS z; obtain ⟨h_81, e82, z⟩ := z
       refine WL.e h_81 (store_row (P := Pg) (h := h_74) (t := 37) (v := (.agg ([.int .i64 5, strA t53, .int .i64 0, .int .i64 t1] : List AV))) (by kernel_rfl) (by kernel_rfl) e82) ?_
       refine WL.a (some 5) (.int .i64 t57) h_81 ?_
       replace z := oS z; obtain ⟨h_83, e84, z⟩ := z
       refine WL.e h_83 (store_row (P := Pg) (h := h_81) (t := 27) (v := (.agg ([.int .i64 0, .int .i64 0] : List AV))) (by kernel_rfl) (by kernel_rfl) e84) ?_
       refine WL.n ?_
       refine Go.weaken (l' := [(4, newP h), (5, .int .i64 t57), (6, newP h_2)]) (Fr.c (Fr.c (Fr.c Fr.n))) ?_
       refine n77 ?_
       refine W.ret (by kernel_rfl) ?_
       refine q9 ?_
       refine q6 ?_
       replace z := oS z; obtain ⟨w4_86, e85, z⟩ := z
       replace z := oS z; obtain ⟨w6_88, e87, z⟩ := z
       obtain ⟨z, hF2⟩ := ret_inj z; subst z; subst hF2
       exact leave_of (rs := [.cell 4 37, .tmp 5, .cell 6 27]) (vs := [.agg w4_86, .int .i64 t57, .agg w6_88]) (by kernel_rfl) (res_cell (by kernel_rfl) (load_row (P := Pg) (h := h_83) (t := 37) (by kernel_rfl) (by kernel_rfl) e85) (res_tmp (by kernel_rfl) (res_cell (by kernel_rfl) (load_row (P := Pg) (h := h_83) (t := 27) (by kernel_rfl) (by kernel_rfl) e87) res_nil))) (by kernel_rfl)
      | false =>
       replace z := ifB_f z
       refine W.f ?_
       refine W.skip (by kernel_rfl) ?_
       refine n9 ?_
       refine n6 ?_
       refine W.s (fun _ n89 _ _ _ => ?_)
       refine W.r ?_
       refine WL.a (some 59) (.agg ([.int .i64 0, .str 0 0, .int .i64 0, .int .i64 0] : List AV)) h_74 ?_
       refine WL.a (some 60) (.int .i64 t1) h_74 ?_
       refine WL.a (some 61) (.agg ([.int .i64 6, .int .i64 t1] : List AV)) h_74 ?_
       replace z := oS z; obtain ⟨h_90, e91, z⟩ := z
       refine WL.e h_90 (store_row (P := Pg) (h := h_74) (t := 37) (v := (.agg ([.int .i64 0, .str 0 0, .int .i64 0, .int .i64 0] : List AV))) (by kernel_rfl) (by kernel_rfl) e91) ?_
       refine WL.a (some 5) (.int .i64 0) h_90 ?_
       replace z := oS z; obtain ⟨h_92, e93, z⟩ := z
       refine WL.e h_92 (store_row (P := Pg) (h := h_90) (t := 27) (v := (.agg ([.int .i64 6, .int .i64 t1] : List AV))) (by kernel_rfl) (by kernel_rfl) e93) ?_
       refine WL.n ?_
       refine Go.weaken (l' := [(4, newP h), (5, .int .i64 0), (6, newP h_2)]) (Fr.c (Fr.c (Fr.c Fr.n))) ?_
       refine n89 ?_
       refine W.ret (by kernel_rfl) ?_
       replace z := oS z; obtain ⟨w4_95, e94, z⟩ := z
       replace z := oS z; obtain ⟨w6_97, e96, z⟩ := z
       obtain ⟨z, hF2⟩ := ret_inj z; subst z; subst hF2
       exact leave_of (rs := [.cell 4 37, .tmp 5, .cell 6 27]) (vs := [.agg w4_95, .int .i64 0, .agg w6_97]) (by kernel_rfl) (res_cell (by kernel_rfl) (load_row (P := Pg) (h := h_92) (t := 37) (by kernel_rfl) (by kernel_rfl) e94) (res_tmp (by kernel_rfl) (res_cell (by kernel_rfl) (load_row (P := Pg) (h := h_92) (t := 27) (by kernel_rfl) (by kernel_rfl) e96) res_nil))) (by kernel_rfl)
     cases t44 with
     | true =>
      replace z := ifB_t z
      refine WL.o (some 46) ?_
      refine WL.o (some 47) ?_
      refine WL.a (some 48) (.bool true) h_71 ?_
      exact WL.weaken (Fr.c (Fr.c (Fr.c (Fr.c (Fr.c Fr.n))))) (J76 _ _ z)
     | false =>
      replace z := ifB_f z
      refine WL.a (some 46) (.int .u8 t10) h_71 ?_
      replace z := lS z; obtain ⟨t47, e98, z⟩ := z
      refine WL.val (d := (some 47)) (v := .bool t47) (h' := h_71) (by kernel_rfl) (by kernel_rfl) (val_of AV.bool e98 (by kernel_rfl)) ?_
      refine WL.a (some 48) (.bool t47) h_71 ?_
      exact WL.weaken (Fr.c (Fr.c (Fr.c (Fr.c (Fr.c Fr.n))))) (J76 _ _ z)
    cases t40 with
    | true =>
     replace z := ifB_t z
     refine WL.o (some 42) ?_
     refine WL.o (some 43) ?_
     refine WL.a (some 44) (.bool true) h_30 ?_
     exact WL.weaken (Fr.c (Fr.c (Fr.c (Fr.c (Fr.c (Fr.c Fr.n)))))) (J73 _ _ z)
    | false =>
     replace z := ifB_f z
     refine WL.a (some 42) (.int .u8 t10) h_30 ?_
     replace z := lS z; obtain ⟨t43, e99, z⟩ := z
     refine WL.val (d := (some 43)) (v := .bool t43) (h' := h_30) (by kernel_rfl) (by kernel_rfl) (val_of AV.bool e99 (by kernel_rfl)) ?_
     refine WL.a (some 44) (.bool t43) h_30 ?_
     exact WL.weaken (Fr.c (Fr.c (Fr.c (Fr.c (Fr.c (Fr.c Fr.n)))))) (J73 _ _ z)
noncomputable def lex_read_fn (call : CallF) (n : Nat) : FnT := fun args h => match args with
 | [x0, x1] => obind (avStr x0) fun t0 => obind (avInt .i64 x1) fun t1 => lex_read call n t0 t1 h
 | _ => none
set_option maxRecDepth 100000 in
theorem lex_read_fn_eq (call : CallF) (n : Nat) (t0 : Bytes) (t1 : Int) (h : AHeap) : lex_read_fn call n [strA t0, .int .i64 t1] h = lex_read call n t0 t1 h :=
 (Eq.trans (obind_eq (fun t0 => obind (avInt .i64 (.int .i64 t1)) fun t1 => lex_read call n t0 t1 h) (avStr_str t0)) (Eq.trans (obind_eq (fun t1 => lex_read call n t0 t1 h) (avInt_int .i64 t1)) rfl))
theorem lex_read_holds {call : CallF} (hc : SaysAll Pg call) (n : Nat) : Holds Pg 32 (lex_read_fn call n) := by
 intro args h r h2 e
 unfold lex_read_fn at e
 split at e
 ·replace e := oS e; obtain ⟨t0, c0, e⟩ := e; have c0 := avStr_some c0; subst c0
  replace e := oS e; obtain ⟨t1, c1, e⟩ := e; have c1 := avInt_some c1; subst c1
  exact lex_read_ok hc e
 ·cases e
noncomputable def lex_readWord (call : CallF) (_ : Nat) (t0 : Bytes) (t1 : Int) (h : AHeap) : R :=
 lett (newH h 37 [.int .i64 0, .str 0 0, .int .i64 0, .int .i64 0]) fun h_2 =>
 lett (newH h_2 27 [.int .i64 0, .int .i64 0]) fun h_4 =>
 callN (call 18 [strA t0, .int .i64 t1] h_4) fun r11 h_7 =>
 obind (extT 0 r11) fun v12 =>
 obind (avInt .i64 v12) fun t12 =>
 obind (extT 1 r11) fun v13 =>
 obind (avInt .i64 v13) fun t13 =>
 lett ((t13 : Int) != 0) fun (t15 : Bool) =>
 ifB t15
 (
  obind (stRow h_7 4 ([.int .i64 0, .str 0 0, .int .i64 0, .int .i64 0] : List AV) (newP h)) fun h_17 =>
  obind (stRow h_17 2 ([.int .i64 t13, .int .i64 t12] : List AV) (newP h_2)) fun h_19 =>
  obind (ldRow h_19 4 (newP h)) fun w4 =>
  obind (ldRow h_19 2 (newP h_2)) fun w6 =>
  some (.ret (.tup [.agg w4, .int .i64 0, .agg w6]), h_19))
 (
  obind (sliceS t0 t1 t12) fun t23 =>
  obind (stRow h_7 4 ([.int .i64 1, strA t23, .int .i64 0, .int .i64 t1] : List AV) (newP h)) fun h_25 =>
  lett (decide (t12 < (lenS t0))) fun (t29 : Bool) =>
  lett (fun (t35 : Bool) (h_30 : AHeap) =>
   lett (fun (t5 : Int) (h_34 : AHeap) =>
    obind (ldRow h_34 4 (newP h)) fun t39 =>
    obind (stRow h_34 4 t39 (newP h)) fun h_37 =>
    obind (stRow h_37 2 ([.int .i64 0, .int .i64 0] : List AV) (newP h_2)) fun h_39 =>
    obind (ldRow h_39 4 (newP h)) fun w4_42 =>
    obind (ldRow h_39 2 (newP h_2)) fun w6_44 =>
    some (.ret (.tup [.agg w4_42, .int .i64 t5, .agg w6_44]), h_39)) fun k33 =>
   ifB t35
   (
    obind (stRow h_30 1 [.int .i64 2] (AV.ptr (AHeap.next h) 0)) fun h_46 =>
    lett (IntKind.i64.wrap (t12 + 1)) fun (t38 : Int) =>
    k33 t38 h_46)
   (
    k33 t12 h_30)) fun j35 =>
  ifB t29
  (
   obind (idxS t0 t12) fun t33 =>
   lett ((t33 : Int) == 58) fun (t34 : Bool) =>
   j35 t34 h_25)
  (
   j35 false h_25))
theorem lex_readWord_ok {call : CallF} (hc : SaysAll Pg call) {n : Nat} {t0 : Bytes} {t1 : Int} {h : AHeap} {rR : ARes} {hR : AHeap} (z : lex_readWord call n t0 t1 h = some (rR, hR)) : Says Pg 38 [strA t0, .int .i64 t1] h rR hR := by
 unfold lex_readWord at z
 refine says_of (fn := Tryd.f38) Tryd.func38 (c := codeOf Tryd.f38) (by kernel_rfl) (by kernel_rfl) (fun w0 m0 => ?_)
 refine W.weaken (l' := [(0, strA t0), (1, .int .i64 t1)]) (Fr.c (Fr.c Fr.n)) ?_
 refine W.s (fun _ n1 _ _ p1 => ?_)
 refine W.r ?_
 replace z := lS z; obtain ⟨h_2, e3, z⟩ := z
 refine WL.val (d := (some 4)) (v := (newP h)) (h' := h_2) (by kernel_rfl) (by kernel_rfl) (val_ofH e3 (by kernel_rfl)) ?_
 refine WL.a (some 5) (.int .i64 0) h_2 ?_
 replace z := lS z; obtain ⟨h_4, e5, z⟩ := z
 refine WL.val (d := (some 6)) (v := (newP h_2)) (h' := h_4) (by kernel_rfl) (by kernel_rfl) (val_ofH e5 (by kernel_rfl)) ?_
 refine WL.n ?_
 refine Go.weaken (l' := [(0, strA t0), (1, .int .i64 t1), (4, newP h), (6, newP h_2)]) (Fr.c (Fr.c (Fr.c (Fr.c Fr.n)))) ?_
 refine n1 ?_
 refine W.s (fun _ n6 _ _ _ => ?_)
 refine W.r ?_
 refine WL.a (some 9) (strA t0) h_4 ?_
 refine WL.a (some 10) (.int .i64 t1) h_4 ?_
 replace z := callN_some z; obtain ⟨r11, h_7, e8, z⟩ := z
 refine WL.c (hc.ok w0) (some 11) e8 ?_
 refine WL.a (some 8) r11 h_7 ?_
 replace z := oS z; obtain ⟨v12, e9, z⟩ := z
 replace z := oS z; obtain ⟨t12, c10, z⟩ := z
 have c10 := avInt_some c10
 subst c10
 refine WL.b (some 12) (.int .i64 t12) h_7 (extract_tup (h := h_7) e9) ?_
 replace z := oS z; obtain ⟨v13, e11, z⟩ := z
 replace z := oS z; obtain ⟨t13, c12, z⟩ := z
 have c12 := avInt_some c12
 subst c12
 refine WL.b (some 13) (.int .i64 t13) h_7 (extract_tup (h := h_7) e11) ?_
 refine WL.a (some 5) (.int .i64 t12) h_7 ?_
 refine WL.a (some 7) (.int .i64 t13) h_7 ?_
 refine WL.n ?_
 refine Go.weaken (l' := [(0, strA t0), (1, .int .i64 t1), (4, newP h), (5, .int .i64 t12), (6, newP h_2), (7, .int .i64 t13)]) (Fr.c (Fr.c (Fr.c (Fr.c (Fr.c (Fr.c Fr.n)))))) ?_
 refine n6 ?_
 refine W.s (fun _ n13 _ q13 _ => ?_)
 refine W.s (fun _ n14 _ _ _ => ?_)
 refine W.r ?_
 refine WL.a (some 14) (.int .i64 t13) h_7 ?_
 replace z := lS z; obtain ⟨t15, e15, z⟩ := z
 refine WL.val (d := (some 15)) (v := .bool t15) (h' := h_7) (by kernel_rfl) (by kernel_rfl) (val_of AV.bool e15 (by kernel_rfl)) ?_
 refine WL.n ?_
 refine Go.weaken (l' := [(0, strA t0), (1, .int .i64 t1), (4, newP h), (5, .int .i64 t12), (6, newP h_2), (7, .int .i64 t13), (15, .bool t15)]) (Fr.c (Fr.c (Fr.c (Fr.c (Fr.c (Fr.c (Fr.c Fr.n))))))) ?_
 refine n14 ?_
 cases t15 with
 | true =>
  replace z := ifB_t z
  refine W.t ?_
  refine W.s (fun _ n16 _ _ _ => ?_)
  refine W.r ?_
  refine WL.a (some 16) (.agg ([.int .i64 0, .str 0 0, .int .i64 0, .int .i64 0] : List AV)) h_7 ?_
  refine WL.a (some 17) (.int .i64 t13) h_7 ?_
  refine WL.a (some 18) (.int .i64 t12) h_7 ?_
  refine WL.a (some 19) (.agg ([.int .i64 t13, .int .i64 t12] : List AV)) h_7 ?_
  replace z := oS z; obtain ⟨h_17, e18, z⟩ := z
  refine WL.e h_17 (store_row (P := Pg) (h := h_7) (t := 37) (v := (.agg ([.int .i64 0, .str 0 0, .int .i64 0, .int .i64 0] : List AV))) (by kernel_rfl) (by kernel_rfl) e18) ?_
  refine WL.a (some 5) (.int .i64 0) h_17 ?_
  replace z := oS z; obtain ⟨h_19, e20, z⟩ := z
  refine WL.e h_19 (store_row (P := Pg) (h := h_17) (t := 27) (v := (.agg ([.int .i64 t13, .int .i64 t12] : List AV))) (by kernel_rfl) (by kernel_rfl) e20) ?_
  refine WL.n ?_
  refine Go.weaken (l' := [(4, newP h), (5, .int .i64 0), (6, newP h_2)]) (Fr.c (Fr.c (Fr.c Fr.n))) ?_
  refine n16 ?_
  refine W.ret (by kernel_rfl) ?_
  refine q13 ?_
  replace z := oS z; obtain ⟨w4, e21, z⟩ := z
  replace z := oS z; obtain ⟨w6, e22, z⟩ := z
  obtain ⟨z, hF2⟩ := ret_inj z; subst z; subst hF2
  exact leave_of (rs := [.cell 4 37, .tmp 5, .cell 6 27]) (vs := [.agg w4, .int .i64 0, .agg w6]) (by kernel_rfl) (res_cell (by kernel_rfl) (load_row (P := Pg) (h := h_19) (t := 37) (by kernel_rfl) (by kernel_rfl) e21) (res_tmp (by kernel_rfl) (res_cell (by kernel_rfl) (load_row (P := Pg) (h := h_19) (t := 27) (by kernel_rfl) (by kernel_rfl) e22) res_nil))) (by kernel_rfl)
 | false =>
  replace z := ifB_f z
  refine W.f ?_
  refine W.skip (by kernel_rfl) ?_
  refine n13 ?_
  refine W.s (fun _ n23 _ _ _ => ?_)
  refine W.r ?_
  refine WL.a (some 20) (strA t0) h_7 ?_
  refine WL.a (some 21) (.int .i64 t1) h_7 ?_
  refine WL.a (some 22) (.int .i64 t12) h_7 ?_
  replace z := oS z; obtain ⟨t23, e24, z⟩ := z
  refine WL.b (some 23) (strA t23) h_7 (slice_str (P := Pg) (h := h_7) (t := 9) (A := (some (.int .i64 t1))) (B := (some (.int .i64 t12))) (by kernel_rfl) (.inl ⟨_, rfl⟩) (.inl ⟨_, rfl⟩) e24) ?_
  refine WL.a (some 24) (.int .i64 t1) h_7 ?_
  refine WL.a (some 25) (.agg ([.int .i64 1, strA t23, .int .i64 0, .int .i64 t1] : List AV)) h_7 ?_
  replace z := oS z; obtain ⟨h_25, e26, z⟩ := z
  refine WL.e h_25 (store_row (P := Pg) (h := h_7) (t := 37) (v := (.agg ([.int .i64 1, strA t23, .int .i64 0, .int .i64 t1] : List AV))) (by kernel_rfl) (by kernel_rfl) e26) ?_
  refine WL.n ?_
  refine Go.weaken (l' := [(0, strA t0), (4, newP h), (5, .int .i64 t12), (6, newP h_2)]) (Fr.c (Fr.c (Fr.c (Fr.c Fr.n)))) ?_
  refine n23 ?_
  refine W.s (fun K27 n27 _ _ _ => ?_)
  refine W.s (fun K28 n28 _ _ _ => ?_)
  refine W.r ?_
  refine WL.a (some 26) (.int .i64 t12) h_25 ?_
  refine WL.a (some 27) (strA t0) h_25 ?_
  refine WL.a (some 28) (.int .i64 (lenS t0)) h_25 ?_
  replace z := lS z; obtain ⟨t29, e29, z⟩ := z
  refine WL.val (d := (some 29)) (v := .bool t29) (h' := h_25) (by kernel_rfl) (by kernel_rfl) (val_of AV.bool e29 (by kernel_rfl)) ?_
  refine WL.a (some 30) (.bool t29) h_25 ?_
  replace z := lS z; obtain ⟨j35, e31, z⟩ := z
  have J32 : ∀ (t35 : Bool) (h_30 : AHeap), j35 t35 h_30 = some (rR, hR) → WL Pg w0 m0 (Func.ntmps Tryd.f38) (Code.ops (Code.p1 (Code.p1 (Code.p2 (Code.p2 (Code.p2 (Code.p2 (codeOf Tryd.f38)))))))) 10 K28 [(4, newP h), (5, .int .i64 t12), (6, newP h_2), (35, .bool t35)] [] h_30 := by
   intro t35 h_30 z
   rw [e31] at z
   refine WL.n ?_
   refine Go.weaken (l' := [(4, newP h), (5, .int .i64 t12), (6, newP h_2), (35, .bool t35)]) (Fr.c (Fr.c (Fr.c (Fr.c Fr.n)))) ?_
   refine n28 ?_
   replace z := lS z; obtain ⟨k33, e33, z⟩ := z
   have J33 : ∀ (t5 : Int) (h_34 : AHeap), k33 t5 h_34 = some (rR, hR) → Go w0 m0 (Func.ntmps Tryd.f38) (K27 .normal) [(4, newP h), (5, .int .i64 t5), (6, newP h_2)] [] h_34 := by
    intro t5 h_34 z
    rw [e33] at z
    refine n27 ?_
    refine W.s (fun _ n35 _ _ _ => ?_)
    refine W.r ?_
    replace z := oS z; obtain ⟨t39, e36, z⟩ := z
    refine WL.b (some 39) (.agg t39) h_34 (load_row (P := Pg) (h := h_34) (t := 37) (by kernel_rfl) (by kernel_rfl) e36) ?_
    refine WL.a (some 40) (.int .i64 t5) h_34 ?_
    refine WL.a (some 41) (.agg ([.int .i64 0, .int .i64 0] : List AV)) h_34 ?_
    replace z := oS z; obtain ⟨h_37, e38, z⟩ := z
    refine WL.e h_37 (store_row (P := Pg) (h := h_34) (t := 37) (v := (.agg t39)) (by kernel_rfl) (by kernel_rfl) e38) ?_
    refine WL.a (some 5) (.int .i64 t5) h_37 ?_
    replace z := oS z; obtain ⟨h_39, e40, z⟩ := z
    refine WL.e h_39 (store_row (P := Pg) (h := h_37) (t := 27) (v := (.agg ([.int .i64 0, .int .i64 0] : List AV))) (by kernel_rfl) (by kernel_rfl) e40) ?_
    refine WL.n ?_
    refine Go.weaken (l' := [(4, newP h), (5, .int .i64 t5), (6, newP h_2)]) (Fr.c (Fr.c (Fr.c Fr.n))) ?_
    refine n35 ?_
    refine W.ret (by kernel_rfl) ?_
    replace z := oS z; obtain ⟨w4_42, e41, z⟩ := z
    replace z := oS z; obtain ⟨w6_44, e43, z⟩ := z
    obtain ⟨z, hF2⟩ := ret_inj z; subst z; subst hF2
    exact leave_of (rs := [.cell 4 37, .tmp 5, .cell 6 27]) (vs := [.agg w4_42, .int .i64 t5, .agg w6_44]) (by kernel_rfl) (res_cell (by kernel_rfl) (load_row (P := Pg) (h := h_39) (t := 37) (by kernel_rfl) (by kernel_rfl) e41) (res_tmp (by kernel_rfl) (res_cell (by kernel_rfl) (load_row (P := Pg) (h := h_39) (t := 27) (by kernel_rfl) (by kernel_rfl) e43) res_nil))) (by kernel_rfl)
   cases t35 with
   | true =>
    replace z := ifB_t z
    refine W.t ?_
    refine W.s (fun _ n45 _ _ _ => ?_)
    refine W.r ?_
    refine WL.a (some 36) (AV.ptr (AHeap.next h) 0) h_30 ?_
    replace z := oS z; obtain ⟨h_46, e47, z⟩ := z
    refine WL.e h_46 (store_row (P := Pg) (h := h_30) (t := 3) (v := (.int .i64 2)) (by kernel_rfl) (by kernel_rfl) e47) ?_
    refine WL.n ?_
    refine Go.weaken (l' := [(4, newP h), (5, .int .i64 t12), (6, newP h_2)]) (Fr.c (Fr.c (Fr.c Fr.n))) ?_
    refine n45 ?_
    refine W.r ?_
    refine WL.a (some 37) (.int .i64 t12) h_46 ?_
    replace z := lS z; obtain ⟨t38, e48, z⟩ := z
    refine WL.val (d := (some 38)) (v := .int .i64 t38) (h' := h_46) (by kernel_rfl) (by kernel_rfl) (val_of (AV.int .i64) e48 (by kernel_rfl)) ?_
    refine WL.a (some 5) (.int .i64 t38) h_46 ?_
    refine WL.n ?_
    refine Go.weaken (l' := [(4, newP h), (5, .int .i64 t38), (6, newP h_2)]) (Fr.c (Fr.c (Fr.c Fr.n))) ?_
    exact Go.weaken (Fr.c (Fr.c (Fr.c Fr.n))) (J33 _ _ z)
   | false =>
    replace z := ifB_f z
    refine W.f ?_
    refine W.skip (by kernel_rfl) ?_
    exact Go.weaken (Fr.c (Fr.c (Fr.c Fr.n))) (J33 _ _ z)
  cases t29 with
  | true =>
   replace z := ifB_t z
   refine WL.a (some 31) (strA t0) h_25 ?_
   refine WL.a (some 32) (.int .i64 t12) h_25 ?_
   replace z := oS z; obtain ⟨t33, e49, z⟩ := z
   refine WL.b (some 33) (.int .u8 t33) h_25 (index_str (P := Pg) (h := h_25) (t := 9) (k := .i64) (by kernel_rfl) e49) ?_
   replace z := lS z; obtain ⟨t34, e50, z⟩ := z
   refine WL.val (d := (some 34)) (v := .bool t34) (h' := h_25) (by kernel_rfl) (by kernel_rfl) (val_of AV.bool e50 (by kernel_rfl)) ?_
   refine WL.a (some 35) (.bool t34) h_25 ?_
   exact WL.weaken (Fr.c (Fr.c (Fr.c (Fr.c Fr.n)))) (J32 _ _ z)
  | false =>
   replace z := ifB_f z
   refine WL.o (some 31) ?_
   refine WL.o (some 32) ?_
   refine WL.o (some 33) ?_
   refine WL.o (some 34) ?_
   refine WL.a (some 35) (.bool false) h_25 ?_
   exact WL.weaken (Fr.c (Fr.c (Fr.c (Fr.c Fr.n)))) (J32 _ _ z)
noncomputable def lex_readWord_fn (call : CallF) (n : Nat) : FnT := fun args h => match args with
 | [x0, x1] => obind (avStr x0) fun t0 => obind (avInt .i64 x1) fun t1 => lex_readWord call n t0 t1 h
 | _ => none
set_option maxRecDepth 100000 in
theorem lex_readWord_fn_eq (call : CallF) (n : Nat) (t0 : Bytes) (t1 : Int) (h : AHeap) : lex_readWord_fn call n [strA t0, .int .i64 t1] h = lex_readWord call n t0 t1 h :=
 (Eq.trans (obind_eq (fun t0 => obind (avInt .i64 (.int .i64 t1)) fun t1 => lex_readWord call n t0 t1 h) (avStr_str t0)) (Eq.trans (obind_eq (fun t1 => lex_readWord call n t0 t1 h) (avInt_int .i64 t1)) rfl))
theorem lex_readWord_holds {call : CallF} (hc : SaysAll Pg call) (n : Nat) : Holds Pg 38 (lex_readWord_fn call n) := by
 intro args h r h2 e
 unfold lex_readWord_fn at e
 split at e
 ·replace e := oS e; obtain ⟨t0, c0, e⟩ := e; have c0 := avStr_some c0; subst c0
  replace e := oS e; obtain ⟨t1, c1, e⟩ := e; have c1 := avInt_some c1; subst c1
  exact lex_readWord_ok hc e
 ·cases e
noncomputable def lex_wordEnd (call : CallF) (_ : Nat) (t0 : Bytes) (t1 : Int) (h : AHeap) : R :=
 callN (call 26 [strA t0, .int .i64 t1, .int .i64 16, (AV.fn 27 [] [])] h) fun r8 h_3 =>
 obind (extT 0 r8) fun v9 =>
 obind (avInt .i64 v9) fun t9 =>
 obind (extT 1 r8) fun v10 =>
 obind (avInt .i64 v10) fun t10 =>
 some (.ret (.tup [.int .i64 t9, .int .i64 t10]), h_3)
theorem lex_wordEnd_ok {call : CallF} (hc : SaysAll Pg call) {n : Nat} {t0 : Bytes} {t1 : Int} {h : AHeap} {rR : ARes} {hR : AHeap} (z : lex_wordEnd call n t0 t1 h = some (rR, hR)) : Says Pg 18 [strA t0, .int .i64 t1] h rR hR := by
 unfold lex_wordEnd at z
 refine says_of (fn := Tryd.f18) Tryd.func18 (c := codeOf Tryd.f18) (by kernel_rfl) (by kernel_rfl) (fun w0 m0 => ?_)
 refine W.weaken (l' := [(0, strA t0), (1, .int .i64 t1)]) (Fr.c (Fr.c Fr.n)) ?_
 refine W.s (fun _ n1 _ _ _ => ?_)
 refine W.r ?_
 refine WL.a (some 4) (.int .i64 0) h ?_
 refine WL.a (some 5) (.int .i64 0) h ?_
 refine WL.n ?_
 refine Go.weaken (l' := [(0, strA t0), (1, .int .i64 t1)]) (Fr.c (Fr.c Fr.n)) ?_
 refine n1 ?_
 refine W.s (fun _ n2 _ _ _ => ?_)
 refine W.r ?_
 refine WL.a (some 6) (strA t0) h ?_
 refine WL.a (some 7) (.int .i64 t1) h ?_
 replace z := callN_some z; obtain ⟨r8, h_3, e4, z⟩ := z
 refine WL.c (hc.ok w0) (some 8) e4 ?_
 replace z := oS z; obtain ⟨v9, e5, z⟩ := z
 replace z := oS z; obtain ⟨t9, c6, z⟩ := z
 have c6 := avInt_some c6
 subst c6
 refine WL.b (some 9) (.int .i64 t9) h_3 (extract_tup (h := h_3) e5) ?_
 replace z := oS z; obtain ⟨v10, e7, z⟩ := z
 replace z := oS z; obtain ⟨t10, c8, z⟩ := z
 have c8 := avInt_some c8
 subst c8
 refine WL.b (some 10) (.int .i64 t10) h_3 (extract_tup (h := h_3) e7) ?_
 refine WL.a (some 4) (.int .i64 t9) h_3 ?_
 refine WL.a (some 5) (.int .i64 t10) h_3 ?_
 refine WL.n ?_
 refine Go.weaken (l' := [(4, .int .i64 t9), (5, .int .i64 t10)]) (Fr.c (Fr.c Fr.n)) ?_
 refine n2 ?_
 refine W.ret (by kernel_rfl) ?_
 obtain ⟨z, hF2⟩ := ret_inj z; subst z; subst hF2
 exact leave_of (rs := [.tmp 4, .tmp 5]) (vs := [.int .i64 t9, .int .i64 t10]) (by kernel_rfl) (res_tmp (by kernel_rfl) (res_tmp (by kernel_rfl) res_nil)) (by kernel_rfl)
noncomputable def lex_wordEnd_fn (call : CallF) (n : Nat) : FnT := fun args h => match args with
 | [x0, x1] => obind (avStr x0) fun t0 => obind (avInt .i64 x1) fun t1 => lex_wordEnd call n t0 t1 h
 | _ => none
set_option maxRecDepth 100000 in
theorem lex_wordEnd_fn_eq (call : CallF) (n : Nat) (t0 : Bytes) (t1 : Int) (h : AHeap) : lex_wordEnd_fn call n [strA t0, .int .i64 t1] h = lex_wordEnd call n t0 t1 h :=
 (Eq.trans (obind_eq (fun t0 => obind (avInt .i64 (.int .i64 t1)) fun t1 => lex_wordEnd call n t0 t1 h) (avStr_str t0)) (Eq.trans (obind_eq (fun t1 => lex_wordEnd call n t0 t1 h) (avInt_int .i64 t1)) rfl))
theorem lex_wordEnd_holds {call : CallF} (hc : SaysAll Pg call) (n : Nat) : Holds Pg 18 (lex_wordEnd_fn call n) := by
 intro args h r h2 e
 unfold lex_wordEnd_fn at e
 split at e
 ·replace e := oS e; obtain ⟨t0, c0, e⟩ := e; have c0 := avStr_some c0; subst c0
  replace e := oS e; obtain ⟨t1, c1, e⟩ := e; have c1 := avInt_some c1; subst c1
  exact lex_wordEnd_ok hc e
 ·cases e
noncomputable def lex_wordEnd_1 (call : CallF) (_ : Nat) (t0 : Int) (h : AHeap) : R :=
 callN (call 16 [.int .u8 t0] h) fun r4 h_3 =>
 obind (avBool r4) fun t4 =>
 lett (fun (t8 : Bool) (h_6 : AHeap) =>
  lett (fun (t12 : Bool) (h_9 : AHeap) =>
   lett (fun (t16 : Bool) (h_12 : AHeap) =>
    some (.ret (.bool t16), h_12)) fun j16 =>
   ifB t12
   (
    j16 true h_9)
   (
    lett ((t0 : Int) == 45) fun (t15 : Bool) =>
    j16 t15 h_9)) fun j12 =>
  ifB t8
  (
   j12 true h_6)
  (
   lett ((t0 : Int) == 95) fun (t11 : Bool) =>
   j12 t11 h_6)) fun j8 =>
 ifB t4
 (
  j8 true h_3)
 (
  callN (call 28 [.int .u8 t0] h_3) fun r7 h_17 =>
  obind (avBool r7) fun t7 =>
  j8 t7 h_17)
theorem lex_wordEnd_1_ok {call : CallF} (hc : SaysAll Pg call) {n : Nat} {t0 : Int} {h : AHeap} {rR : ARes} {hR : AHeap} (z : lex_wordEnd_1 call n t0 h = some (rR, hR)) : Says Pg 27 [.int .u8 t0] h rR hR := by
 unfold lex_wordEnd_1 at z
 refine says_of (fn := Tryd.f27) Tryd.func27 (c := codeOf Tryd.f27) (by kernel_rfl) (by kernel_rfl) (fun w0 m0 => ?_)
 refine W.weaken (l' := [(0, .int .u8 t0)]) (Fr.c Fr.n) ?_
 refine W.s (fun _ n1 _ _ p1 => ?_)
 refine W.r ?_
 refine WL.a (some 2) (.bool false) h ?_
 refine WL.n ?_
 refine Go.weaken (l' := [(0, .int .u8 t0)]) (Fr.c Fr.n) ?_
 refine n1 ?_
 refine W.s (fun K2 n2 _ _ p2 => ?_)
 refine W.r ?_
 refine WL.a (some 3) (.int .u8 t0) h ?_
 replace z := callN_some z; obtain ⟨r4, h_3, e4, z⟩ := z
 replace z := oS z; obtain ⟨t4, c5, z⟩ := z
 have c5 := avBool_some c5
 subst c5
 refine WL.c (hc.ok w0) (some 4) e4 ?_
 refine WL.a (some 5) (.bool t4) h_3 ?_
 replace z := lS z; obtain ⟨j8, e7, z⟩ := z
 have J8 : ∀ (t8 : Bool) (h_6 : AHeap), j8 t8 h_6 = some (rR, hR) → WL Pg w0 m0 (Func.ntmps Tryd.f27) (Code.ops (Code.p1 (Code.p2 (codeOf Tryd.f27)))) 6 K2 [(0, .int .u8 t0), (8, .bool t8)] [] h_6 := by
  intro t8 h_6 z
  rw [e7] at z
  refine WL.a (some 9) (.bool t8) h_6 ?_
  replace z := lS z; obtain ⟨j12, e10, z⟩ := z
  have J11 : ∀ (t12 : Bool) (h_9 : AHeap), j12 t12 h_9 = some (rR, hR) → WL Pg w0 m0 (Func.ntmps Tryd.f27) (Code.ops (Code.p1 (Code.p2 (codeOf Tryd.f27)))) 10 K2 [(0, .int .u8 t0), (12, .bool t12)] [] h_9 := by
   intro t12 h_9 z
   rw [e10] at z
   refine WL.a (some 13) (.bool t12) h_9 ?_
   replace z := lS z; obtain ⟨j16, e13, z⟩ := z
   have J14 : ∀ (t16 : Bool) (h_12 : AHeap), j16 t16 h_12 = some (rR, hR) → WL Pg w0 m0 (Func.ntmps Tryd.f27) (Code.ops (Code.p1 (Code.p2 (codeOf Tryd.f27)))) 14 K2 [(16, .bool t16)] [] h_12 := by
    intro t16 h_12 z
    rw [e13] at z
    refine WL.a (some 2) (.bool t16) h_12 ?_
    refine WL.n ?_
    refine Go.weaken (l' := [(2, .bool t16)]) (Fr.c Fr.n) ?_
    refine n2 ?_
    refine W.ret (by kernel_rfl) ?_
    obtain ⟨z, hF2⟩ := ret_inj z; subst z; subst hF2
    exact leave_of (rs := [.tmp 2]) (vs := [.bool t16]) (by kernel_rfl) (res_tmp (by kernel_rfl) res_nil) (by kernel_rfl)
   cases t12 with
   | true =>
    replace z := ifB_t z
    refine WL.o (some 14) ?_
    refine WL.o (some 15) ?_
    refine WL.a (some 16) (.bool true) h_9 ?_
    exact WL.weaken (Fr.c Fr.n) (J14 _ _ z)
   | false =>
    replace z := ifB_f z
    refine WL.a (some 14) (.int .u8 t0) h_9 ?_
    replace z := lS z; obtain ⟨t15, e15, z⟩ := z
    refine WL.val (d := (some 15)) (v := .bool t15) (h' := h_9) (by kernel_rfl) (by kernel_rfl) (val_of AV.bool e15 (by kernel_rfl)) ?_
    refine WL.a (some 16) (.bool t15) h_9 ?_
    exact WL.weaken (Fr.c Fr.n) (J14 _ _ z)
  cases t8 with
  | true =>
   replace z := ifB_t z
   refine WL.o (some 10) ?_
   refine WL.o (some 11) ?_
   refine WL.a (some 12) (.bool true) h_6 ?_
   exact WL.weaken (Fr.c (Fr.c Fr.n)) (J11 _ _ z)
  | false =>
   replace z := ifB_f z
   refine WL.a (some 10) (.int .u8 t0) h_6 ?_
   replace z := lS z; obtain ⟨t11, e16, z⟩ := z
   refine WL.val (d := (some 11)) (v := .bool t11) (h' := h_6) (by kernel_rfl) (by kernel_rfl) (val_of AV.bool e16 (by kernel_rfl)) ?_
   refine WL.a (some 12) (.bool t11) h_6 ?_
   exact WL.weaken (Fr.c (Fr.c Fr.n)) (J11 _ _ z)
 cases t4 with
 | true =>
  replace z := ifB_t z
  refine WL.o (some 6) ?_
  refine WL.o (some 7) ?_
  refine WL.a (some 8) (.bool true) h_3 ?_
  exact WL.weaken (Fr.c (Fr.c Fr.n)) (J8 _ _ z)
 | false =>
  replace z := ifB_f z
  refine WL.a (some 6) (.int .u8 t0) h_3 ?_
  replace z := callN_some z; obtain ⟨r7, h_17, e18, z⟩ := z
  replace z := oS z; obtain ⟨t7, c19, z⟩ := z
  have c19 := avBool_some c19
  subst c19
  refine WL.c (hc.ok w0) (some 7) e18 ?_
  refine WL.a (some 8) (.bool t7) h_17 ?_
  exact WL.weaken (Fr.c (Fr.c Fr.n)) (J8 _ _ z)
noncomputable def lex_wordEnd_1_fn (call : CallF) (n : Nat) : FnT := fun args h => match args with
 | [x0] => obind (avInt .u8 x0) fun t0 => lex_wordEnd_1 call n t0 h
 | _ => none
set_option maxRecDepth 100000 in
theorem lex_wordEnd_1_fn_eq (call : CallF) (n : Nat) (t0 : Int) (h : AHeap) : lex_wordEnd_1_fn call n [.int .u8 t0] h = lex_wordEnd_1 call n t0 h :=
 (Eq.trans (obind_eq (fun t0 => lex_wordEnd_1 call n t0 h) (avInt_int .u8 t0)) rfl)
theorem lex_wordEnd_1_holds {call : CallF} (hc : SaysAll Pg call) (n : Nat) : Holds Pg 27 (lex_wordEnd_1_fn call n) := by
 intro args h r h2 e
 unfold lex_wordEnd_1_fn at e
 split at e
 ·replace e := oS e; obtain ⟨t0, c0, e⟩ := e; have c0 := avInt_some c0; subst c0
  exact lex_wordEnd_1_ok hc e
 ·cases e
noncomputable def lex_readText (call : CallF) (_ : Nat) (t0 : Bytes) (t1 : Int) (h : AHeap) : R :=
 lett (newH h 37 [.int .i64 0, .str 0 0, .int .i64 0, .int .i64 0]) fun h_2 =>
 lett (newH h_2 27 [.int .i64 0, .int .i64 0]) fun h_4 =>
 obind (sliceS t0 t1 (lenS t0)) fun t12 =>
 callN (call 46 [strA t12, .int .i64 64] h_4) fun r13 h_8 =>
 obind (extT 0 r13) fun v14 =>
 obind (avStr v14) fun t14 =>
 obind (extT 1 r13) fun v15 =>
 obind (avInt .i64 v15) fun t15 =>
 obind (extT 2 r13) fun v16 =>
 obind (avAgg v16) fun t16 =>
 obind (stRow h_8 2 t16 (newP h_2)) fun h_16 =>
 obind (ldCell h_16 (AV.ptr (AHeap.next h_2) 0)) fun v18 =>
 obind (avInt .i64 v18) fun t18 =>
 lett ((t18 : Int) != 0) fun (t19 : Bool) =>
 ifB t19
 (
  obind (ldCell h_16 (AV.ptr (AHeap.next h_2) 0)) fun v22 =>
  obind (avInt .i64 v22) fun t22 =>
  obind (ldCell h_16 (AV.ptr (AHeap.next h_2) 1)) fun v25 =>
  obind (avInt .i64 v25) fun t25 =>
  lett (IntKind.i64.wrap (t1 + t25)) fun (t26 : Int) =>
  obind (stRow h_16 4 ([.int .i64 0, .str 0 0, .int .i64 0, .int .i64 0] : List AV) (newP h)) fun h_29 =>
  chk (reLoad Pg h_29 3 (AV.ptr (AHeap.next h_2) 1) (.int .i64 t25) && (reLoad Pg h_29 25 (AV.ptr (AHeap.next h_2) 0) (.int .i64 t22) && true)) <|
  obind (stRow h_29 2 ([.int .i64 t22, .int .i64 t26] : List AV) (newP h_2)) fun h_32 =>
  obind (ldRow h_32 4 (newP h)) fun w4 =>
  obind (ldRow h_32 2 (newP h_2)) fun w6 =>
  some (.ret (.tup [.agg w4, .int .i64 0, .agg w6]), h_32))
 (
  lett (IntKind.i64.wrap (t1 + t15)) fun (t33 : Int) =>
  obind (stRow h_16 4 ([.int .i64 4, strA t14, .int .i64 0, .int .i64 t1] : List AV) (newP h)) fun h_38 =>
  obind (stRow h_38 2 ([.int .i64 0, .int .i64 0] : List AV) (newP h_2)) fun h_40 =>
  obind (ldRow h_40 4 (newP h)) fun w4_43 =>
  obind (ldRow h_40 2 (newP h_2)) fun w6_45 =>
  some (.ret (.tup [.agg w4_43, .int .i64 t33, .agg w6_45]), h_40))
theorem lex_readText_ok {call : CallF} (hc : SaysAll Pg call) {n : Nat} {t0 : Bytes} {t1 : Int} {h : AHeap} {rR : ARes} {hR : AHeap} (z : lex_readText call n t0 t1 h = some (rR, hR)) : Says Pg 40 [strA t0, .int .i64 t1] h rR hR := by
 unfold lex_readText at z
 refine says_of (fn := Tryd.f40) Tryd.func40 (c := codeOf Tryd.f40) (by kernel_rfl) (by kernel_rfl) (fun w0 m0 => ?_)
 refine W.weaken (l' := [(0, strA t0), (1, .int .i64 t1)]) (Fr.c (Fr.c Fr.n)) ?_
 refine W.s (fun _ n1 _ _ _ => ?_)
 refine W.r ?_
 replace z := lS z; obtain ⟨h_2, e3, z⟩ := z
 refine WL.val (d := (some 4)) (v := (newP h)) (h' := h_2) (by kernel_rfl) (by kernel_rfl) (val_ofH e3 (by kernel_rfl)) ?_
 refine WL.a (some 5) (.int .i64 0) h_2 ?_
 replace z := lS z; obtain ⟨h_4, e5, z⟩ := z
 refine WL.val (d := (some 6)) (v := (newP h_2)) (h' := h_4) (by kernel_rfl) (by kernel_rfl) (val_ofH e5 (by kernel_rfl)) ?_
 refine WL.n ?_
 refine Go.weaken (l' := [(0, strA t0), (1, .int .i64 t1), (4, newP h), (6, newP h_2)]) (Fr.c (Fr.c (Fr.c (Fr.c Fr.n)))) ?_
 refine n1 ?_
 refine W.s (fun _ n6 _ _ _ => ?_)
 refine W.r ?_
 refine WL.a (some 10) (strA t0) h_4 ?_
 refine WL.a (some 11) (.int .i64 t1) h_4 ?_
 replace z := oS z; obtain ⟨t12, e7, z⟩ := z
 refine WL.b (some 12) (strA t12) h_4 (slice_str (P := Pg) (h := h_4) (t := 9) (A := (some (.int .i64 t1))) (B := none) (by kernel_rfl) (.inl ⟨_, rfl⟩) (.inr ⟨rfl, rfl⟩) e7) ?_
 replace z := callN_some z; obtain ⟨r13, h_8, e9, z⟩ := z
 refine WL.c (hc.ok w0) (some 13) e9 ?_
 refine WL.a (some 9) r13 h_8 ?_
 replace z := oS z; obtain ⟨v14, e10, z⟩ := z
 replace z := oS z; obtain ⟨t14, c11, z⟩ := z
 have c11 := avStr_some c11
 subst c11
 refine WL.b (some 14) (strA t14) h_8 (extract_tup (h := h_8) e10) ?_
 replace z := oS z; obtain ⟨v15, e12, z⟩ := z
 replace z := oS z; obtain ⟨t15, c13, z⟩ := z
 have c13 := avInt_some c13
 subst c13
 refine WL.b (some 15) (.int .i64 t15) h_8 (extract_tup (h := h_8) e12) ?_
 replace z := oS z; obtain ⟨v16, e14, z⟩ := z
 replace z := oS z; obtain ⟨t16, c15, z⟩ := z
 have c15 := avAgg_some c15
 subst c15
 refine WL.b (some 16) (.agg t16) h_8 (extract_tup (h := h_8) e14) ?_
 refine WL.a (some 7) (strA t14) h_8 ?_
 refine WL.a (some 8) (.int .i64 t15) h_8 ?_
 replace z := oS z; obtain ⟨h_16, e17, z⟩ := z
 refine WL.e h_16 (store_row (P := Pg) (h := h_8) (t := 27) (v := (.agg t16)) (by kernel_rfl) (by kernel_rfl) e17) ?_
 refine WL.n ?_
 refine Go.weaken (l' := [(1, .int .i64 t1), (4, newP h), (6, newP h_2), (7, strA t14), (8, .int .i64 t15)]) (Fr.c (Fr.c (Fr.c (Fr.c (Fr.c Fr.n))))) ?_
 refine n6 ?_
 refine W.s (fun _ n18 _ q18 _ => ?_)
 refine W.s (fun _ n19 _ _ _ => ?_)
 refine W.r ?_
 refine WL.a (some 17) (AV.ptr (AHeap.next h_2) 0) h_16 ?_
 replace z := oS z; obtain ⟨v18, e20, z⟩ := z
 replace z := oS z; obtain ⟨t18, c21, z⟩ := z
 have c21 := avInt_some c21
 subst c21
 refine WL.b (some 18) (.int .i64 t18) h_16 (load_cell (P := Pg) (h := h_16) (t := 25) (by kernel_rfl) e20) ?_
 replace z := lS z; obtain ⟨t19, e22, z⟩ := z
 refine WL.val (d := (some 19)) (v := .bool t19) (h' := h_16) (by kernel_rfl) (by kernel_rfl) (val_of AV.bool e22 (by kernel_rfl)) ?_
 refine WL.n ?_
 refine Go.weaken (l' := [(1, .int .i64 t1), (4, newP h), (6, newP h_2), (7, strA t14), (8, .int .i64 t15), (19, .bool t19)]) (Fr.c (Fr.c (Fr.c (Fr.c (Fr.c (Fr.c Fr.n)))))) ?_
 refine n19 ?_
 cases t19 with
 | true =>
  replace z := ifB_t z
  refine W.t ?_
  refine W.s (fun _ n23 _ _ _ => ?_)
  refine W.draw (by kernel_rfl) (hc.ok w0) (plan := [0, 1, 2, 3, 4, 5, 6, 7, 8, 9, 10]) (by kernel_rfl) (by kernel_rfl) (by kernel_rfl) ?_
  refine WD.a 0 (some 20) (.agg ([.int .i64 0, .str 0 0, .int .i64 0, .int .i64 0] : List AV)) h_16 ?_
  refine WD.a 0 (some 21) (AV.ptr (AHeap.next h_2) 0) h_16 ?_
  replace z := oS z; obtain ⟨v22, e24, z⟩ := z
  replace z := oS z; obtain ⟨t22, c25, z⟩ := z
  have c25 := avInt_some c25
  subst c25
  refine WD.b 1 (some 22) (.int .i64 t22) h_16 (load_cell (P := Pg) (h := h_16) (t := 25) (by kernel_rfl) e24) ?_
  refine WD.a 0 (some 23) (.int .i64 t1) h_16 ?_
  refine WD.a 0 (some 24) (AV.ptr (AHeap.next h_2) 1) h_16 ?_
  replace z := oS z; obtain ⟨v25, e26, z⟩ := z
  replace z := oS z; obtain ⟨t25, c27, z⟩ := z
  have c27 := avInt_some c27
  subst c27
  refine WD.b 1 (some 25) (.int .i64 t25) h_16 (load_cell (P := Pg) (h := h_16) (t := 3) (by kernel_rfl) e26) ?_
  replace z := lS z; obtain ⟨t26, e28, z⟩ := z
  refine WD.val (d := (some 26)) (v := .int .i64 t26) (h' := h_16) (by kernel_rfl) (by kernel_rfl) (val_of (AV.int .i64) e28 (by kernel_rfl)) (k := 0) (by kernel_rfl) (fun e => absurd e (by decide)) (by decide) ?_
  refine WD.a 0 (some 27) (.agg ([.int .i64 t22, .int .i64 t26] : List AV)) h_16 ?_
  replace z := oS z; obtain ⟨h_29, e30, z⟩ := z
  replace z := chk_some z; obtain ⟨k31, z⟩ := z
  refine WD.eff (h' := h_29) (by kernel_rfl) (by kernel_rfl) (Eq.trans (by kernel_rfl) (store_row (P := Pg) (h := h_16) (t := 37) (v := (.agg ([.int .i64 0, .str 0 0, .int .i64 0, .int .i64 0] : List AV))) (by kernel_rfl) (by kernel_rfl) e30)) (k := 2) (by kernel_rfl) (fun _ => (Eq.trans (by kernel_rfl) k31)) (by decide) ?_
  refine WD.a 0 (some 5) (.int .i64 0) h_29 ?_
  replace z := oS z; obtain ⟨h_32, e33, z⟩ := z
  refine WD.eff (h' := h_32) (by kernel_rfl) (by kernel_rfl) (Eq.trans (by kernel_rfl) (store_row (P := Pg) (h := h_29) (t := 27) (v := (.agg ([.int .i64 t22, .int .i64 t26] : List AV))) (by kernel_rfl) (by kernel_rfl) e33)) (k := 2) (by kernel_rfl) (fun _ => (by kernel_rfl)) (by decide) ?_
  refine WD.nil ?_
  refine Go.weaken (l' := [(4, newP h), (5, .int .i64 0), (6, newP h_2)]) (Fr.c (Fr.c (Fr.c Fr.n))) ?_
  refine n23 ?_
  refine W.ret (by kernel_rfl) ?_
  refine q18 ?_
  replace z := oS z; obtain ⟨w4, e34, z⟩ := z
  replace z := oS z; obtain ⟨w6, e35, z⟩ := z
  obtain ⟨z, hF2⟩ := ret_inj z; subst z; subst hF2
  exact leave_of (rs := [.cell 4 37, .tmp 5, .cell 6 27]) (vs := [.agg w4, .int .i64 0, .agg w6]) (by kernel_rfl) (res_cell (by kernel_rfl) (load_row (P := Pg) (h := h_32) (t := 37) (by kernel_rfl) (by kernel_rfl) e34) (res_tmp (by kernel_rfl) (res_cell (by kernel_rfl) (load_row (P := Pg) (h := h_32) (t := 27) (by kernel_rfl) (by kernel_rfl) e35) res_nil))) (by kernel_rfl)
 | false =>
  replace z := ifB_f z
  refine W.f ?_
  refine W.skip (by kernel_rfl) ?_
  refine n18 ?_
  refine W.s (fun _ n36 _ _ _ => ?_)
  refine W.r ?_
  refine WL.a (some 28) (strA t14) h_16 ?_
  refine WL.a (some 29) (.int .i64 t1) h_16 ?_
  refine WL.a (some 30) (.agg ([.int .i64 4, strA t14, .int .i64 0, .int .i64 t1] : List AV)) h_16 ?_
  refine WL.a (some 31) (.int .i64 t1) h_16 ?_
  refine WL.a (some 32) (.int .i64 t15) h_16 ?_
  replace z := lS z; obtain ⟨t33, e37, z⟩ := z
  refine WL.val (d := (some 33)) (v := .int .i64 t33) (h' := h_16) (by kernel_rfl) (by kernel_rfl) (val_of (AV.int .i64) e37 (by kernel_rfl)) ?_
  refine WL.a (some 34) (.agg ([.int .i64 0, .int .i64 0] : List AV)) h_16 ?_
  replace z := oS z; obtain ⟨h_38, e39, z⟩ := z
  refine WL.e h_38 (store_row (P := Pg) (h := h_16) (t := 37) (v := (.agg ([.int .i64 4, strA t14, .int .i64 0, .int .i64 t1] : List AV))) (by kernel_rfl) (by kernel_rfl) e39) ?_
  refine WL.a (some 5) (.int .i64 t33) h_38 ?_
  replace z := oS z; obtain ⟨h_40, e41, z⟩ := z
  refine WL.e h_40 (store_row (P := Pg) (h := h_38) (t := 27) (v := (.agg ([.int .i64 0, .int .i64 0] : List AV))) (by kernel_rfl) (by kernel_rfl) e41) ?_
  refine WL.n ?_
  refine Go.weaken (l' := [(4, newP h), (5, .int .i64 t33), (6, newP h_2)]) (Fr.c (Fr.c (Fr.c Fr.n))) ?_
  refine n36 ?_
  refine W.ret (by kernel_rfl) ?_
  replace z := oS z; obtain ⟨w4_43, e42, z⟩ := z
  replace z := oS z; obtain ⟨w6_45, e44, z⟩ := z
  obtain ⟨z, hF2⟩ := ret_inj z; subst z; subst hF2
  exact leave_of (rs := [.cell 4 37, .tmp 5, .cell 6 27]) (vs := [.agg w4_43, .int .i64 t33, .agg w6_45]) (by kernel_rfl) (res_cell (by kernel_rfl) (load_row (P := Pg) (h := h_40) (t := 37) (by kernel_rfl) (by kernel_rfl) e42) (res_tmp (by kernel_rfl) (res_cell (by kernel_rfl) (load_row (P := Pg) (h := h_40) (t := 27) (by kernel_rfl) (by kernel_rfl) e44) res_nil))) (by kernel_rfl)
noncomputable def lex_readText_fn (call : CallF) (n : Nat) : FnT := fun args h => match args with
 | [x0, x1] => obind (avStr x0) fun t0 => obind (avInt .i64 x1) fun t1 => lex_readText call n t0 t1 h
 | _ => none
set_option maxRecDepth 100000 in
theorem lex_readText_fn_eq (call : CallF) (n : Nat) (t0 : Bytes) (t1 : Int) (h : AHeap) : lex_readText_fn call n [strA t0, .int .i64 t1] h = lex_readText call n t0 t1 h :=
 (Eq.trans (obind_eq (fun t0 => obind (avInt .i64 (.int .i64 t1)) fun t1 => lex_readText call n t0 t1 h) (avStr_str t0)) (Eq.trans (obind_eq (fun t1 => lex_readText call n t0 t1 h) (avInt_int .i64 t1)) rfl))
theorem lex_readText_holds {call : CallF} (hc : SaysAll Pg call) (n : Nat) : Holds Pg 40 (lex_readText_fn call n) := by
 intro args h r h2 e
 unfold lex_readText_fn at e
 split at e
 ·replace e := oS e; obtain ⟨t0, c0, e⟩ := e; have c0 := avStr_some c0; subst c0
  replace e := oS e; obtain ⟨t1, c1, e⟩ := e; have c1 := avInt_some c1; subst c1
  exact lex_readText_ok hc e
 ·cases e
noncomputable def lex_readNumber_L0b (h : AHeap) (v36 : AV) (t37 : Int) (k48 : AHeap → R) (self : Int → AHeap → R) (t38 : Int) (h_61 : AHeap) : R :=
 lett (decide (t38 < t37)) fun (t39 : Bool) =>
 ifB t39
 (
  obind (idxP 1 v36 t38) fun t40 =>
  obind (ldCell h_61 t40) fun v41 =>
  obind (avInt .u8 v41) fun t41 =>
  obind (ldCell h_61 (AV.ptr (AHeap.next h) 2)) fun v43 =>
  obind (avInt .i64 v43) fun t43 =>
  lett (IntKind.i64.wrap (10 * t43)) fun (t44 : Int) =>
  lett (IntKind.u8.wrap (t41 - 48)) fun (t46 : Int) =>
  lett (IntKind.i64.wrap t46) fun (t47 : Int) =>
  lett (IntKind.i64.wrap (t44 + t47)) fun (t48 : Int) =>
  obind (stRow h_61 1 [.int .i64 t48] (AV.ptr (AHeap.next h) 2)) fun h_77 =>
  lett (IntKind.i64.wrap (t38 + 1)) fun (t50 : Int) =>
  self t50 h_77)
 (
  k48 h_61)
noncomputable def lex_readNumber_L0 (h : AHeap) (v36 : AV) (t37 : Int) (k48 : AHeap → R) : Nat → Int → AHeap → R := iterR (fun _ _ => none) (lex_readNumber_L0b h v36 t37 k48)
theorem lex_readNumber_L0_s (h : AHeap) (v36 : AV) (t37 : Int) (k48 : AHeap → R) (m : Nat) : lex_readNumber_L0 h v36 t37 k48 (m + 1) = lex_readNumber_L0b h v36 t37 k48 (lex_readNumber_L0 h v36 t37 k48 m) := rfl
noncomputable def lex_readNumber (call : CallF) (n : Nat) (t0 : Bytes) (t1 : Int) (h : AHeap) : R :=
 lett (newH h 37 [.int .i64 0, .str 0 0, .int .i64 0, .int .i64 0]) fun h_2 =>
 lett (newH h_2 27 [.int .i64 0, .int .i64 0]) fun h_4 =>
 obind (stRow h_4 4 ([.int .i64 3, .str 0 0, .int .i64 0, .int .i64 t1] : List AV) (newP h)) fun h_7 =>
 obind (idxS t0 t1) fun t14 =>
 lett ((t14 : Int) == 48) fun (t15 : Bool) =>
 ifB t15
 (
  obind (ldRow h_7 4 (newP h)) fun t16 =>
  lett (IntKind.i64.wrap (t1 + 1)) fun (t18 : Int) =>
  obind (stRow h_7 4 t16 (newP h)) fun h_16 =>
  obind (stRow h_16 2 ([.int .i64 0, .int .i64 0] : List AV) (newP h_2)) fun h_18 =>
  obind (ldRow h_18 4 (newP h)) fun w4 =>
  obind (ldRow h_18 2 (newP h_2)) fun w6 =>
  some (.ret (.tup [.agg w4, .int .i64 t18, .agg w6]), h_18))
 (
  callN (call 26 [strA t0, .int .i64 t1, .int .i64 4, (AV.fn 28 [] [])] h_7) fun r23 h_23 =>
  obind (extT 0 r23) fun v24 =>
  obind (avInt .i64 v24) fun t24 =>
  obind (extT 1 r23) fun v25 =>
  obind (avInt .i64 v25) fun t25 =>
  lett ((t25 : Int) != 0) fun (t27 : Bool) =>
  ifB t27
  (
   obind (stRow h_23 4 ([.int .i64 0, .str 0 0, .int .i64 0, .int .i64 0] : List AV) (newP h)) fun h_33 =>
   obind (stRow h_33 2 ([.int .i64 t25, .int .i64 t24] : List AV) (newP h_2)) fun h_35 =>
   obind (ldRow h_35 4 (newP h)) fun w4_38 =>
   obind (ldRow h_35 2 (newP h_2)) fun w6_40 =>
   some (.ret (.tup [.agg w4_38, .int .i64 0, .agg w6_40]), h_35))
  (
   obind (sliceS t0 t1 t24) fun t35 =>
   outK (opConv Pg h_23 9 50 (some (strA t35))) fun v36 h_44 =>
   obind (lenL v36) fun t37 =>
   lett (fun  (h_49 : AHeap) =>
    obind (ldRow h_49 4 (newP h)) fun t51 =>
    obind (stRow h_49 4 t51 (newP h)) fun h_52 =>
    obind (stRow h_52 2 ([.int .i64 0, .int .i64 0] : List AV) (newP h_2)) fun h_54 =>
    obind (ldRow h_54 4 (newP h)) fun w4_57 =>
    obind (ldRow h_54 2 (newP h_2)) fun w6_59 =>
    some (.ret (.tup [.agg w4_57, .int .i64 t24, .agg w6_59]), h_54)) fun k48 =>
   lex_readNumber_L0 h v36 t37 k48 n 0 h_44))
theorem lex_readNumber_ok {call : CallF} (hc : SaysAll Pg call) {n : Nat} {t0 : Bytes} {t1 : Int} {h : AHeap} {rR : ARes} {hR : AHeap} (z : lex_readNumber call n t0 t1 h = some (rR, hR)) : Says Pg 39 [strA t0, .int .i64 t1] h rR hR := by
 unfold lex_readNumber at z
 refine says_of (fn := Tryd.f39) Tryd.func39 (c := codeOf Tryd.f39) (by kernel_rfl) (by kernel_rfl) (fun w0 m0 => ?_)
 refine W.weaken (l' := [(0, strA t0), (1, .int .i64 t1)]) (Fr.c (Fr.c Fr.n)) ?_
 refine W.s (fun _ n1 _ _ _ => ?_)
 refine W.r ?_
 replace z := lS z; obtain ⟨h_2, e3, z⟩ := z
 refine WL.val (d := (some 4)) (v := (newP h)) (h' := h_2) (by kernel_rfl) (by kernel_rfl) (val_ofH e3 (by kernel_rfl)) ?_
 refine WL.a (some 5) (.int .i64 0) h_2 ?_
 replace z := lS z; obtain ⟨h_4, e5, z⟩ := z
 refine WL.val (d := (some 6)) (v := (newP h_2)) (h' := h_4) (by kernel_rfl) (by kernel_rfl) (val_ofH e5 (by kernel_rfl)) ?_
 refine WL.n ?_
 refine Go.weaken (l' := [(0, strA t0), (1, .int .i64 t1), (4, newP h), (6, newP h_2)]) (Fr.c (Fr.c (Fr.c (Fr.c Fr.n)))) ?_
 refine n1 ?_
 refine W.s (fun _ n6 _ _ _ => ?_)
 refine W.r ?_
 refine WL.a (some 10) (.int .i64 t1) h_4 ?_
 refine WL.a (some 11) (.agg ([.int .i64 3, .str 0 0, .int .i64 0, .int .i64 t1] : List AV)) h_4 ?_
 replace z := oS z; obtain ⟨h_7, e8, z⟩ := z
 refine WL.e h_7 (store_row (P := Pg) (h := h_4) (t := 37) (v := (.agg ([.int .i64 3, .str 0 0, .int .i64 0, .int .i64 t1] : List AV))) (by kernel_rfl) (by kernel_rfl) e8) ?_
 refine WL.n ?_
 refine Go.weaken (l' := [(0, strA t0), (1, .int .i64 t1), (4, newP h), (6, newP h_2)]) (Fr.c (Fr.c (Fr.c (Fr.c Fr.n)))) ?_
 refine n6 ?_
 refine W.s (fun _ n9 _ q9 _ => ?_)
 refine W.s (fun _ n10 _ _ _ => ?_)
 refine W.r ?_
 refine WL.a (some 12) (strA t0) h_7 ?_
 refine WL.a (some 13) (.int .i64 t1) h_7 ?_
 replace z := oS z; obtain ⟨t14, e11, z⟩ := z
 refine WL.b (some 14) (.int .u8 t14) h_7 (index_str (P := Pg) (h := h_7) (t := 9) (k := .i64) (by kernel_rfl) e11) ?_
 replace z := lS z; obtain ⟨t15, e12, z⟩ := z
 refine WL.val (d := (some 15)) (v := .bool t15) (h' := h_7) (by kernel_rfl) (by kernel_rfl) (val_of AV.bool e12 (by kernel_rfl)) ?_
 refine WL.n ?_
 refine Go.weaken (l' := [(0, strA t0), (1, .int .i64 t1), (4, newP h), (6, newP h_2), (15, .bool t15)]) (Fr.c (Fr.c (Fr.c (Fr.c (Fr.c Fr.n))))) ?_
 refine n10 ?_
 cases t15 with
 | true =>
  replace z := ifB_t z
  refine W.t ?_
  refine W.s (fun _ n13 _ _ _ => ?_)
  refine W.r ?_
  replace z := oS z; obtain ⟨t16, e14, z⟩ := z
  refine WL.b (some 16) (.agg t16) h_7 (load_row (P := Pg) (h := h_7) (t := 37) (by kernel_rfl) (by kernel_rfl) e14) ?_
  refine WL.a (some 17) (.int .i64 t1) h_7 ?_
  replace z := lS z; obtain ⟨t18, e15, z⟩ := z
  refine WL.val (d := (some 18)) (v := .int .i64 t18) (h' := h_7) (by kernel_rfl) (by kernel_rfl) (val_of (AV.int .i64) e15 (by kernel_rfl)) ?_
  refine WL.a (some 19) (.agg ([.int .i64 0, .int .i64 0] : List AV)) h_7 ?_
  replace z := oS z; obtain ⟨h_16, e17, z⟩ := z
  refine WL.e h_16 (store_row (P := Pg) (h := h_7) (t := 37) (v := (.agg t16)) (by kernel_rfl) (by kernel_rfl) e17) ?_
  refine WL.a (some 5) (.int .i64 t18) h_16 ?_
  replace z := oS z; obtain ⟨h_18, e19, z⟩ := z
  refine WL.e h_18 (store_row (P := Pg) (h := h_16) (t := 27) (v := (.agg ([.int .i64 0, .int .i64 0] : List AV))) (by kernel_rfl) (by kernel_rfl) e19) ?_
  refine WL.n ?_
  refine Go.weaken (l' := [(4, newP h), (5, .int .i64 t18), (6, newP h_2)]) (Fr.c (Fr.c (Fr.c Fr.n))) ?_
  refine n13 ?_
  refine W.ret (by kernel_rfl) ?_
  refine q9 ?_
  replace z := oS z; obtain ⟨w4, e20, z⟩ := z
  replace z := oS z; obtain ⟨w6, e21, z⟩ := z
  obtain ⟨z, hF2⟩ := ret_inj z; subst z; subst hF2
  exact leave_of (rs := [.cell 4 37, .tmp 5, .cell 6 27]) (vs := [.agg w4, .int .i64 t18, .agg w6]) (by kernel_rfl) (res_cell (by kernel_rfl) (load_row (P := Pg) (h := h_18) (t := 37) (by kernel_rfl) (by kernel_rfl) e20) (res_tmp (by kernel_rfl) (res_cell (by kernel_rfl) (load_row (P := Pg) (h := h_18) (t := 27) (by kernel_rfl) (by kernel_rfl) e21) res_nil))) (by kernel_rfl)
 | false =>
  replace z := ifB_f z
  refine W.f ?_
  refine W.skip (by kernel_rfl) ?_
  refine n9 ?_
  refine W.s (fun _ n22 _ _ _ => ?_)
  refine W.r ?_
  refine WL.a (some 21) (strA t0) h_7 ?_
  refine WL.a (some 22) (.int .i64 t1) h_7 ?_
  replace z := callN_some z; obtain ⟨r23, h_23, e24, z⟩ := z
  refine WL.c (hc.ok w0) (some 23) e24 ?_
  refine WL.a (some 20) r23 h_23 ?_
  replace z := oS z; obtain ⟨v24, e25, z⟩ := z
  replace z := oS z; obtain ⟨t24, c26, z⟩ := z
  have c26 := avInt_some c26
  subst c26
  refine WL.b (some 24) (.int .i64 t24) h_23 (extract_tup (h := h_23) e25) ?_
  replace z := oS z; obtain ⟨v25, e27, z⟩ := z
  replace z := oS z; obtain ⟨t25, c28, z⟩ := z
  have c28 := avInt_some c28
  subst c28
  refine WL.b (some 25) (.int .i64 t25) h_23 (extract_tup (h := h_23) e27) ?_
  refine WL.a (some 5) (.int .i64 t24) h_23 ?_
  refine WL.a (some 7) (.int .i64 t25) h_23 ?_
  refine WL.n ?_
  refine Go.weaken (l' := [(0, strA t0), (1, .int .i64 t1), (4, newP h), (5, .int .i64 t24), (6, newP h_2), (7, .int .i64 t25)]) (Fr.c (Fr.c (Fr.c (Fr.c (Fr.c (Fr.c Fr.n)))))) ?_
  refine n22 ?_
  refine W.s (fun _ n29 _ q29 _ => ?_)
  refine W.s (fun _ n30 _ _ _ => ?_)
  refine W.r ?_
  refine WL.a (some 26) (.int .i64 t25) h_23 ?_
  replace z := lS z; obtain ⟨t27, e31, z⟩ := z
  refine WL.val (d := (some 27)) (v := .bool t27) (h' := h_23) (by kernel_rfl) (by kernel_rfl) (val_of AV.bool e31 (by kernel_rfl)) ?_
  refine WL.n ?_
  refine Go.weaken (l' := [(0, strA t0), (1, .int .i64 t1), (4, newP h), (5, .int .i64 t24), (6, newP h_2), (7, .int .i64 t25), (27, .bool t27)]) (Fr.c (Fr.c (Fr.c (Fr.c (Fr.c (Fr.c (Fr.c Fr.n))))))) ?_
  refine n30 ?_
  cases t27 with
  | true =>
   replace z := ifB_t z
   refine W.t ?_
   refine W.s (fun _ n32 _ _ _ => ?_)
   refine W.r ?_
   refine WL.a (some 28) (.agg ([.int .i64 0, .str 0 0, .int .i64 0, .int .i64 0] : List AV)) h_23 ?_
   refine WL.a (some 29) (.int .i64 t25) h_23 ?_
   refine WL.a (some 30) (.int .i64 t24) h_23 ?_
   refine WL.a (some 31) (.agg ([.int .i64 t25, .int .i64 t24] : List AV)) h_23 ?_
   replace z := oS z; obtain ⟨h_33, e34, z⟩ := z
   refine WL.e h_33 (store_row (P := Pg) (h := h_23) (t := 37) (v := (.agg ([.int .i64 0, .str 0 0, .int .i64 0, .int .i64 0] : List AV))) (by kernel_rfl) (by kernel_rfl) e34) ?_
   refine WL.a (some 5) (.int .i64 0) h_33 ?_
   replace z := oS z; obtain ⟨h_35, e36, z⟩ := z
   refine WL.e h_35 (store_row (P := Pg) (h := h_33) (t := 27) (v := (.agg ([.int .i64 t25, .int .i64 t24] : List AV))) (by kernel_rfl) (by kernel_rfl) e36) ?_
   refine WL.n ?_
   refine Go.weaken (l' := [(4, newP h), (5, .int .i64 0), (6, newP h_2)]) (Fr.c (Fr.c (Fr.c Fr.n))) ?_
   refine n32 ?_
   refine W.ret (by kernel_rfl) ?_
   refine q29 ?_
   replace z := oS z; obtain ⟨w4_38, e37, z⟩ := z
   replace z := oS z; obtain ⟨w6_40, e39, z⟩ := z
   obtain ⟨z, hF2⟩ := ret_inj z; subst z; subst hF2
   exact leave_of (rs := [.cell 4 37, .tmp 5, .cell 6 27]) (vs := [.agg w4_38, .int .i64 0, .agg w6_40]) (by kernel_rfl) (res_cell (by kernel_rfl) (load_row (P := Pg) (h := h_35) (t := 37) (by kernel_rfl) (by kernel_rfl) e37) (res_tmp (by kernel_rfl) (res_cell (by kernel_rfl) (load_row (P := Pg) (h := h_35) (t := 27) (by kernel_rfl) (by kernel_rfl) e39) res_nil))) (by kernel_rfl)
  | false =>
   replace z := ifB_f z
   refine W.f ?_
   refine W.skip (by kernel_rfl) ?_
   refine n29 ?_
   refine W.s (fun K41 n41 _ _ _ => ?_)
   refine W.s (fun _ n42 _ _ _ => ?_)
   refine W.r ?_
   refine WL.a (some 32) (strA t0) h_23 ?_
   refine WL.a (some 33) (.int .i64 t1) h_23 ?_
   refine WL.a (some 34) (.int .i64 t24) h_23 ?_
   replace z := oS z; obtain ⟨t35, e43, z⟩ := z
   refine WL.b (some 35) (strA t35) h_23 (slice_str (P := Pg) (h := h_23) (t := 9) (A := (some (.int .i64 t1))) (B := (some (.int .i64 t24))) (by kernel_rfl) (.inl ⟨_, rfl⟩) (.inl ⟨_, rfl⟩) e43) ?_
   replace z := outK_some z; obtain ⟨v36, h_44, e45, z⟩ := z
   refine WL.b (some 36) v36 h_44 e45 ?_
   replace z := oS z; obtain ⟨t37, e46, z⟩ := z
   refine WL.b (some 37) (.int .i64 t37) h_44 (len_row (P := Pg) (h := h_44) (t := 50) (e' := 5) (by kernel_rfl) e46) ?_
   refine WL.a (some 38) (.int .i64 0) h_44 ?_
   refine WL.n ?_
   refine Go.weaken (l' := [(4, newP h), (5, .int .i64 t24), (6, newP h_2), (36, v36), (37, .int .i64 t37), (38, .int .i64 0)]) (Fr.c (Fr.c (Fr.c (Fr.c (Fr.c (Fr.c Fr.n)))))) ?_
   refine n42 ?_
   replace z := lS z; obtain ⟨k48, e48, z⟩ := z
   have J48 : ∀  (h_49 : AHeap), k48 h_49 = some (rR, hR) → Go w0 m0 (Func.ntmps Tryd.f39) (K41 .normal) [(4, newP h), (5, .int .i64 t24), (6, newP h_2)] [] h_49 := by
    intro  h_49 z
    rw [e48] at z
    refine n41 ?_
    refine W.s (fun _ n50 _ _ _ => ?_)
    refine W.r ?_
    replace z := oS z; obtain ⟨t51, e51, z⟩ := z
    refine WL.b (some 51) (.agg t51) h_49 (load_row (P := Pg) (h := h_49) (t := 37) (by kernel_rfl) (by kernel_rfl) e51) ?_
    refine WL.a (some 52) (.int .i64 t24) h_49 ?_
    refine WL.a (some 53) (.agg ([.int .i64 0, .int .i64 0] : List AV)) h_49 ?_
    replace z := oS z; obtain ⟨h_52, e53, z⟩ := z
    refine WL.e h_52 (store_row (P := Pg) (h := h_49) (t := 37) (v := (.agg t51)) (by kernel_rfl) (by kernel_rfl) e53) ?_
    refine WL.a (some 5) (.int .i64 t24) h_52 ?_
    replace z := oS z; obtain ⟨h_54, e55, z⟩ := z
    refine WL.e h_54 (store_row (P := Pg) (h := h_52) (t := 27) (v := (.agg ([.int .i64 0, .int .i64 0] : List AV))) (by kernel_rfl) (by kernel_rfl) e55) ?_
    refine WL.n ?_
    refine Go.weaken (l' := [(4, newP h), (5, .int .i64 t24), (6, newP h_2)]) (Fr.c (Fr.c (Fr.c Fr.n))) ?_
    refine n50 ?_
    refine W.ret (by kernel_rfl) ?_
    replace z := oS z; obtain ⟨w4_57, e56, z⟩ := z
    replace z := oS z; obtain ⟨w6_59, e58, z⟩ := z
    obtain ⟨z, hF2⟩ := ret_inj z; subst z; subst hF2
    exact leave_of (rs := [.cell 4 37, .tmp 5, .cell 6 27]) (vs := [.agg w4_57, .int .i64 t24, .agg w6_59]) (by kernel_rfl) (res_cell (by kernel_rfl) (load_row (P := Pg) (h := h_54) (t := 37) (by kernel_rfl) (by kernel_rfl) e56) (res_tmp (by kernel_rfl) (res_cell (by kernel_rfl) (load_row (P := Pg) (h := h_54) (t := 27) (by kernel_rfl) (by kernel_rfl) e58) res_nil))) (by kernel_rfl)
   refine W.blockK (by kernel_rfl) (fun K47 n47 s47 o47 q47 p47 => ?_)
   refine W.loopK (by kernel_rfl) (fun I60 K60 b60 n60 e60 q60 p60 => ?_)
   have L60 : ∀ (m : Nat) (t38 : Int) (h_61 : AHeap), lex_readNumber_L0 h v36 t37 k48 m t38 h_61 = some (rR, hR) → Go w0 m0 (Func.ntmps Tryd.f39) I60 [(4, newP h), (5, .int .i64 t24), (6, newP h_2), (36, v36), (37, .int .i64 t37), (38, .int .i64 t38)] [] h_61 := by
    intro m
    induction m with
    | zero => intro t38 h_61 z; cases z
    | succ m ih60 =>
     intro t38 h_61 z
     rw [lex_readNumber_L0_s] at z; unfold lex_readNumber_L0b at z
     refine b60 ?_
     refine W.s (fun _ n62 _ _ _ => ?_)
     refine W.r ?_
     replace z := lS z; obtain ⟨t39, e63, z⟩ := z
     refine WL.val (d := (some 39)) (v := .bool t39) (h' := h_61) (by kernel_rfl) (by kernel_rfl) (val_of AV.bool e63 (by kernel_rfl)) ?_
     refine WL.n ?_
     refine Go.weaken (l' := [(4, newP h), (5, .int .i64 t24), (6, newP h_2), (36, v36), (37, .int .i64 t37), (38, .int .i64 t38), (39, .bool t39)]) (Fr.c (Fr.c (Fr.c (Fr.c (Fr.c (Fr.c (Fr.c Fr.n))))))) ?_
     refine n62 ?_
     refine W.s (fun _ n64 e64 _ _ => ?_)
     cases t39 with
     | true =>
      replace z := ifB_t z
      refine W.t ?_
      refine W.skip (by kernel_rfl) ?_
      refine n64 ?_
      refine W.s (fun _ n65 _ _ _ => ?_)
      refine W.blockK (by kernel_rfl) (fun K66 n66 s66 o66 q66 p66 => ?_)
      refine W.s (fun _ n67 _ _ _ => ?_)
      refine W.r ?_
      replace z := oS z; obtain ⟨t40, e68, z⟩ := z
      refine WL.b (some 40) t40 h_61 (index_row (P := Pg) (h := h_61) (t := 50) (e' := 5) (k := .i64) (by kernel_rfl) (by kernel_rfl) (by kernel_rfl) e68) ?_
      replace z := oS z; obtain ⟨v41, e69, z⟩ := z
      replace z := oS z; obtain ⟨t41, c70, z⟩ := z
      have c70 := avInt_some c70
      subst c70
      refine WL.b (some 41) (.int .u8 t41) h_61 (load_cell (P := Pg) (h := h_61) (t := 5) (by kernel_rfl) e69) ?_
      refine WL.a (some 9) (.int .u8 t41) h_61 ?_
      refine WL.n ?_
      refine Go.weaken (l' := [(4, newP h), (5, .int .i64 t24), (6, newP h_2), (9, .int .u8 t41), (36, v36), (37, .int .i64 t37), (38, .int .i64 t38)]) (Fr.c (Fr.c (Fr.c (Fr.c (Fr.c (Fr.c (Fr.c Fr.n))))))) ?_
      refine n67 ?_
      refine W.r ?_
      refine WL.a (some 42) (AV.ptr (AHeap.next h) 2) h_61 ?_
      replace z := oS z; obtain ⟨v43, e71, z⟩ := z
      replace z := oS z; obtain ⟨t43, c72, z⟩ := z
      have c72 := avInt_some c72
      subst c72
      refine WL.b (some 43) (.int .i64 t43) h_61 (load_cell (P := Pg) (h := h_61) (t := 3) (by kernel_rfl) e71) ?_
      replace z := lS z; obtain ⟨t44, e73, z⟩ := z
      refine WL.val (d := (some 44)) (v := .int .i64 t44) (h' := h_61) (by kernel_rfl) (by kernel_rfl) (val_of (AV.int .i64) e73 (by kernel_rfl)) ?_
      refine WL.a (some 45) (.int .u8 t41) h_61 ?_
      replace z := lS z; obtain ⟨t46, e74, z⟩ := z
      refine WL.val (d := (some 46)) (v := .int .u8 t46) (h' := h_61) (by kernel_rfl) (by kernel_rfl) (val_of (AV.int .u8) e74 (by kernel_rfl)) ?_
      replace z := lS z; obtain ⟨t47, e75, z⟩ := z
      refine WL.val (d := (some 47)) (v := .int .i64 t47) (h' := h_61) (by kernel_rfl) (by kernel_rfl) (val_of (AV.int .i64) e75 (by kernel_rfl)) ?_
      replace z := lS z; obtain ⟨t48, e76, z⟩ := z
      refine WL.val (d := (some 48)) (v := .int .i64 t48) (h' := h_61) (by kernel_rfl) (by kernel_rfl) (val_of (AV.int .i64) e76 (by kernel_rfl)) ?_
      refine WL.a (some 49) (AV.ptr (AHeap.next h) 2) h_61 ?_
      replace z := oS z; obtain ⟨h_77, e78, z⟩ := z
      refine WL.e h_77 (store_row (P := Pg) (h := h_61) (t := 3) (v := (.int .i64 t48)) (by kernel_rfl) (by kernel_rfl) e78) ?_
      refine WL.n ?_
      refine Go.weaken (l' := [(4, newP h), (5, .int .i64 t24), (6, newP h_2), (36, v36), (37, .int .i64 t37), (38, .int .i64 t38)]) (Fr.c (Fr.c (Fr.c (Fr.c (Fr.c (Fr.c Fr.n)))))) ?_
      refine n66 ?_
      refine n65 ?_
      refine W.r ?_
      replace z := lS z; obtain ⟨t50, e79, z⟩ := z
      refine WL.val (d := (some 50)) (v := .int .i64 t50) (h' := h_77) (by kernel_rfl) (by kernel_rfl) (val_of (AV.int .i64) e79 (by kernel_rfl)) ?_
      refine WL.a (some 38) (.int .i64 t50) h_77 ?_
      refine WL.n ?_
      refine Go.weaken (l' := [(4, newP h), (5, .int .i64 t24), (6, newP h_2), (36, v36), (37, .int .i64 t37), (38, .int .i64 t50)]) (Fr.c (Fr.c (Fr.c (Fr.c (Fr.c (Fr.c Fr.n)))))) ?_
      refine n60 ?_
      exact Go.weaken (Fr.c (Fr.c (Fr.c (Fr.c (Fr.c (Fr.c Fr.n)))))) (ih60 _ _ z)
     | false =>
      replace z := ifB_f z
      refine W.f ?_
      refine W.exit (by kernel_rfl) ?_
      refine e64 ?_
      refine e60 ?_
      refine s47 (by kernel_rfl) ?_
      exact Go.weaken (Fr.c (Fr.c (Fr.c Fr.n))) (J48 _ z)
   exact Go.weaken (Fr.c (Fr.c (Fr.c (Fr.c (Fr.c (Fr.c Fr.n)))))) (L60 _ _ _ z)
noncomputable def lex_readNumber_fn (call : CallF) (n : Nat) : FnT := fun args h => match args with
 | [x0, x1] => obind (avStr x0) fun t0 => obind (avInt .i64 x1) fun t1 => lex_readNumber call n t0 t1 h
 | _ => none
set_option maxRecDepth 100000 in
theorem lex_readNumber_fn_eq (call : CallF) (n : Nat) (t0 : Bytes) (t1 : Int) (h : AHeap) : lex_readNumber_fn call n [strA t0, .int .i64 t1] h = lex_readNumber call n t0 t1 h :=
 (Eq.trans (obind_eq (fun t0 => obind (avInt .i64 (.int .i64 t1)) fun t1 => lex_readNumber call n t0 t1 h) (avStr_str t0)) (Eq.trans (obind_eq (fun t1 => lex_readNumber call n t0 t1 h) (avInt_int .i64 t1)) rfl))
theorem lex_readNumber_holds {call : CallF} (hc : SaysAll Pg call) (n : Nat) : Holds Pg 39 (lex_readNumber_fn call n) := by
 intro args h r h2 e
 unfold lex_readNumber_fn at e
 split at e
 ·replace e := oS e; obtain ⟨t0, c0, e⟩ := e; have c0 := avStr_some c0; subst c0
  replace e := oS e; obtain ⟨t1, c1, e⟩ := e; have c1 := avInt_some c1; subst c1
  exact lex_readNumber_ok hc e
 ·cases e
noncomputable def lex_run_L0b (call : CallF) (t0 : Bytes) (t1 : Int) (t2 : Int) (t3 : AV) (k5 : Int → AHeap → R) (self : Int → AHeap → R) (t8_9 : Int) (h_10 : AHeap) : R :=
 lett (decide (t8_9 < (lenS t0))) fun (t14 : Bool) =>
 lett (fun (t21 : Bool) (h_14 : AHeap) =>
  ifB t21
  (
   lett (IntKind.i64.wrap (t8_9 - t1)) fun (t24 : Int) =>
   lett ((t24 : Int) == t2) fun (t26 : Bool) =>
   ifB t26
   (
    some (.ret (.tup [.int .i64 t8_9, .int .i64 3]), h_14))
   (
    lett (IntKind.i64.wrap (t8_9 + 1)) fun (t29 : Int) =>
    self t29 h_14))
  (
   k5 t8_9 h_14)) fun j21 =>
 ifB t14
 (
  obind (idxS t0 t8_9) fun t19 =>
  callN (dynC Pg call t3 [.int .u8 t19] h_10) fun r20 h_25 =>
  obind (avBool r20) fun t20 =>
  j21 t20 h_25)
 (
  j21 false h_10)
noncomputable def lex_run_L0 (call : CallF) (t0 : Bytes) (t1 : Int) (t2 : Int) (t3 : AV) (k5 : Int → AHeap → R) : Nat → Int → AHeap → R := iterR (fun _ _ => none) (lex_run_L0b call t0 t1 t2 t3 k5)
theorem lex_run_L0_s (call : CallF) (t0 : Bytes) (t1 : Int) (t2 : Int) (t3 : AV) (k5 : Int → AHeap → R) (m : Nat) : lex_run_L0 call t0 t1 t2 t3 k5 (m + 1) = lex_run_L0b call t0 t1 t2 t3 k5 (lex_run_L0 call t0 t1 t2 t3 k5 m) := rfl
noncomputable def lex_run (call : CallF) (n : Nat) (t0 : Bytes) (t1 : Int) (t2 : Int) (t3 : AV) (h : AHeap) : R :=
 lett (fun (t8 : Int) (h_6 : AHeap) =>
  some (.ret (.tup [.int .i64 t8, .int .i64 0]), h_6)) fun k5 =>
 lex_run_L0 call t0 t1 t2 t3 k5 n t1 h
theorem lex_run_ok {call : CallF} (hc : SaysAll Pg call) {n : Nat} {t0 : Bytes} {t1 : Int} {t2 : Int} {t3 : AV} {h : AHeap} {rR : ARes} {hR : AHeap} (z : lex_run call n t0 t1 t2 t3 h = some (rR, hR)) : Says Pg 26 [strA t0, .int .i64 t1, .int .i64 t2, t3] h rR hR := by
 unfold lex_run at z
 refine says_of (fn := Tryd.f26) Tryd.func26 (c := codeOf Tryd.f26) (by kernel_rfl) (by kernel_rfl) (fun w0 m0 => ?_)
 refine W.weaken (l' := [(0, strA t0), (1, .int .i64 t1), (2, .int .i64 t2), (3, t3)]) (Fr.c (Fr.c (Fr.c (Fr.c Fr.n)))) ?_
 refine W.s (fun _ n1 _ _ p1 => ?_)
 refine W.r ?_
 refine WL.a (some 8) (.int .i64 0) h ?_
 refine WL.a (some 9) (.int .i64 0) h ?_
 refine WL.n ?_
 refine Go.weaken (l' := [(0, strA t0), (1, .int .i64 t1), (2, .int .i64 t2), (3, t3)]) (Fr.c (Fr.c (Fr.c (Fr.c Fr.n)))) ?_
 refine n1 ?_
 refine W.s (fun _ n2 _ _ p2 => ?_)
 refine W.r ?_
 refine WL.a (some 10) (.int .i64 t1) h ?_
 refine WL.a (some 8) (.int .i64 t1) h ?_
 refine WL.n ?_
 refine Go.weaken (l' := [(0, strA t0), (1, .int .i64 t1), (2, .int .i64 t2), (3, t3), (8, .int .i64 t1)]) (Fr.c (Fr.c (Fr.c (Fr.c (Fr.c Fr.n))))) ?_
 refine n2 ?_
 refine W.s (fun K3 n3 _ q3 _ => ?_)
 replace z := lS z; obtain ⟨k5, e5, z⟩ := z
 have J5 : ∀ (t8 : Int) (h_6 : AHeap), k5 t8 h_6 = some (rR, hR) → Go w0 m0 (Func.ntmps Tryd.f26) (K3 .normal) [(8, .int .i64 t8)] [] h_6 := by
  intro t8 h_6 z
  rw [e5] at z
  refine n3 ?_
  refine W.s (fun _ n7 _ _ _ => ?_)
  refine W.r ?_
  refine WL.a (some 30) (.int .i64 t8) h_6 ?_
  refine WL.a (some 8) (.int .i64 t8) h_6 ?_
  refine WL.a (some 9) (.int .i64 0) h_6 ?_
  refine WL.n ?_
  refine Go.weaken (l' := [(8, .int .i64 t8), (9, .int .i64 0)]) (Fr.c (Fr.c Fr.n)) ?_
  refine n7 ?_
  refine W.ret (by kernel_rfl) ?_
  obtain ⟨z, hF2⟩ := ret_inj z; subst z; subst hF2
  exact leave_of (rs := [.tmp 8, .tmp 9]) (vs := [.int .i64 t8, .int .i64 0]) (by kernel_rfl) (res_tmp (by kernel_rfl) (res_tmp (by kernel_rfl) res_nil)) (by kernel_rfl)
 refine W.blockK (by kernel_rfl) (fun K4 n4 s4 o4 q4 p4 => ?_)
 refine W.loopK (by kernel_rfl) (fun I8 K8 b8 n8 e8 q8 p8 => ?_)
 have L8 : ∀ (m : Nat) (t8_9 : Int) (h_10 : AHeap), lex_run_L0 call t0 t1 t2 t3 k5 m t8_9 h_10 = some (rR, hR) → Go w0 m0 (Func.ntmps Tryd.f26) I8 [(0, strA t0), (1, .int .i64 t1), (2, .int .i64 t2), (3, t3), (8, .int .i64 t8_9)] [] h_10 := by
  intro m
  induction m with
  | zero => intro t8_9 h_10 z; cases z
  | succ m ih8 =>
   intro t8_9 h_10 z
   rw [lex_run_L0_s] at z; unfold lex_run_L0b at z
   refine b8 ?_
   refine W.s (fun _ n11 e11 _ _ => ?_)
   refine W.s (fun K12 n12 _ _ _ => ?_)
   refine W.r ?_
   refine WL.a (some 11) (.int .i64 t8_9) h_10 ?_
   refine WL.a (some 12) (strA t0) h_10 ?_
   refine WL.a (some 13) (.int .i64 (lenS t0)) h_10 ?_
   replace z := lS z; obtain ⟨t14, e13, z⟩ := z
   refine WL.val (d := (some 14)) (v := .bool t14) (h' := h_10) (by kernel_rfl) (by kernel_rfl) (val_of AV.bool e13 (by kernel_rfl)) ?_
   refine WL.a (some 15) (.bool t14) h_10 ?_
   replace z := lS z; obtain ⟨j21, e15, z⟩ := z
   have J16 : ∀ (t21 : Bool) (h_14 : AHeap), j21 t21 h_14 = some (rR, hR) → WL Pg w0 m0 (Func.ntmps Tryd.f26) (Code.ops (Code.p1 (Code.p1 (Code.p1 (Code.p1 (Code.p1 (Code.p2 (Code.p2 (codeOf Tryd.f26))))))))) 11 K12 [(0, strA t0), (1, .int .i64 t1), (2, .int .i64 t2), (3, t3), (8, .int .i64 t8_9), (21, .bool t21)] [] h_14 := by
    intro t21 h_14 z
    rw [e15] at z
    refine WL.n ?_
    refine Go.weaken (l' := [(0, strA t0), (1, .int .i64 t1), (2, .int .i64 t2), (3, t3), (8, .int .i64 t8_9), (21, .bool t21)]) (Fr.c (Fr.c (Fr.c (Fr.c (Fr.c (Fr.c Fr.n)))))) ?_
    refine n12 ?_
    cases t21 with
    | true =>
     replace z := ifB_t z
     refine W.t ?_
     refine W.skip (by kernel_rfl) ?_
     refine n11 ?_
     refine W.blockK (by kernel_rfl) (fun K17 n17 s17 o17 q17 p17 => ?_)
     refine W.s (fun _ n18 _ q18 _ => ?_)
     refine W.s (fun _ n19 _ _ _ => ?_)
     refine W.r ?_
     refine WL.a (some 22) (.int .i64 t8_9) h_14 ?_
     refine WL.a (some 23) (.int .i64 t1) h_14 ?_
     replace z := lS z; obtain ⟨t24, e20, z⟩ := z
     refine WL.val (d := (some 24)) (v := .int .i64 t24) (h' := h_14) (by kernel_rfl) (by kernel_rfl) (val_of (AV.int .i64) e20 (by kernel_rfl)) ?_
     refine WL.a (some 25) (.int .i64 t2) h_14 ?_
     replace z := lS z; obtain ⟨t26, e21, z⟩ := z
     refine WL.val (d := (some 26)) (v := .bool t26) (h' := h_14) (by kernel_rfl) (by kernel_rfl) (val_of AV.bool e21 (by kernel_rfl)) ?_
     refine WL.n ?_
     refine Go.weaken (l' := [(0, strA t0), (1, .int .i64 t1), (2, .int .i64 t2), (3, t3), (8, .int .i64 t8_9), (26, .bool t26)]) (Fr.c (Fr.c (Fr.c (Fr.c (Fr.c (Fr.c Fr.n)))))) ?_
     refine n19 ?_
     cases t26 with
     | true =>
      replace z := ifB_t z
      refine W.t ?_
      refine W.s (fun _ n22 _ _ _ => ?_)
      refine W.r ?_
      refine WL.a (some 27) (.int .i64 t8_9) h_14 ?_
      refine WL.a (some 8) (.int .i64 t8_9) h_14 ?_
      refine WL.a (some 9) (.int .i64 3) h_14 ?_
      refine WL.n ?_
      refine Go.weaken (l' := [(8, .int .i64 t8_9), (9, .int .i64 3)]) (Fr.c (Fr.c Fr.n)) ?_
      refine n22 ?_
      refine W.ret (by kernel_rfl) ?_
      refine q18 ?_
      refine q17 ?_
      refine q8 ?_
      refine q4 ?_
      refine q3 ?_
      obtain ⟨z, hF2⟩ := ret_inj z; subst z; subst hF2
      exact leave_of (rs := [.tmp 8, .tmp 9]) (vs := [.int .i64 t8_9, .int .i64 3]) (by kernel_rfl) (res_tmp (by kernel_rfl) (res_tmp (by kernel_rfl) res_nil)) (by kernel_rfl)
     | false =>
      replace z := ifB_f z
      refine W.f ?_
      refine W.skip (by kernel_rfl) ?_
      refine n18 ?_
      refine W.r ?_
      refine WL.a (some 28) (.int .i64 t8_9) h_14 ?_
      replace z := lS z; obtain ⟨t29, e23, z⟩ := z
      refine WL.val (d := (some 29)) (v := .int .i64 t29) (h' := h_14) (by kernel_rfl) (by kernel_rfl) (val_of (AV.int .i64) e23 (by kernel_rfl)) ?_
      refine WL.a (some 8) (.int .i64 t29) h_14 ?_
      refine WL.n ?_
      refine Go.weaken (l' := [(0, strA t0), (1, .int .i64 t1), (2, .int .i64 t2), (3, t3), (8, .int .i64 t29)]) (Fr.c (Fr.c (Fr.c (Fr.c (Fr.c Fr.n))))) ?_
      refine n17 ?_
      refine n8 ?_
      exact Go.weaken (Fr.c (Fr.c (Fr.c (Fr.c (Fr.c Fr.n))))) (ih8 _ _ z)
    | false =>
     replace z := ifB_f z
     refine W.f ?_
     refine W.exit (by kernel_rfl) ?_
     refine e11 ?_
     refine e8 ?_
     refine s4 (by kernel_rfl) ?_
     exact Go.weaken (Fr.c Fr.n) (J5 _ _ z)
   cases t14 with
   | true =>
    replace z := ifB_t z
    refine WL.a (some 16) t3 h_10 ?_
    refine WL.a (some 17) (strA t0) h_10 ?_
    refine WL.a (some 18) (.int .i64 t8_9) h_10 ?_
    replace z := oS z; obtain ⟨t19, e24, z⟩ := z
    refine WL.b (some 19) (.int .u8 t19) h_10 (index_str (P := Pg) (h := h_10) (t := 9) (k := .i64) (by kernel_rfl) e24) ?_
    replace z := callN_some z; obtain ⟨r20, h_25, e26, z⟩ := z
    replace z := oS z; obtain ⟨t20, c27, z⟩ := z
    have c27 := avBool_some c27
    subst c27
    rcases dynC_some e26 with ⟨d28g, d28as, d28h, d281, d282⟩ | ⟨d28v, d28h, d281, d282⟩
    rotate_left
    ·cases d282
     refine WL.val (d := (some 20)) (by kernel_rfl) (by kernel_rfl) (Eq.trans (by kernel_rfl) d281) ?_
     refine WL.a (some 21) (.bool t20) h_25 ?_
     exact WL.weaken (Fr.c (Fr.c (Fr.c (Fr.c (Fr.c (Fr.c Fr.n)))))) (J16 _ _ z)
    ·refine WL.call (hc.ok w0) (d := (some 20)) (by kernel_rfl) (by kernel_rfl) (Eq.trans (by kernel_rfl) d281) d282 ?_
     refine WL.a (some 21) (.bool t20) h_25 ?_
     exact WL.weaken (Fr.c (Fr.c (Fr.c (Fr.c (Fr.c (Fr.c Fr.n)))))) (J16 _ _ z)
   | false =>
    replace z := ifB_f z
    refine WL.o (some 16) ?_
    refine WL.o (some 17) ?_
    refine WL.o (some 18) ?_
    refine WL.o (some 19) ?_
    refine WL.o (some 20) ?_
    refine WL.a (some 21) (.bool false) h_10 ?_
    exact WL.weaken (Fr.c (Fr.c (Fr.c (Fr.c (Fr.c (Fr.c Fr.n)))))) (J16 _ _ z)
 exact Go.weaken (Fr.c (Fr.c (Fr.c (Fr.c (Fr.c Fr.n))))) (L8 _ _ _ z)
noncomputable def lex_run_fn (call : CallF) (n : Nat) : FnT := fun args h => match args with
 | [x0, x1, x2, x3] => obind (avStr x0) fun t0 => obind (avInt .i64 x1) fun t1 => obind (avInt .i64 x2) fun t2 => lex_run call n t0 t1 t2 x3 h
 | _ => none
set_option maxRecDepth 100000 in
theorem lex_run_fn_eq (call : CallF) (n : Nat) (t0 : Bytes) (t1 : Int) (t2 : Int) (t3 : AV) (h : AHeap) : lex_run_fn call n [strA t0, .int .i64 t1, .int .i64 t2, t3] h = lex_run call n t0 t1 t2 t3 h :=
 (Eq.trans (obind_eq (fun t0 => obind (avInt .i64 (.int .i64 t1)) fun t1 => obind (avInt .i64 (.int .i64 t2)) fun t2 => lex_run call n t0 t1 t2 t3 h) (avStr_str t0)) (Eq.trans (obind_eq (fun t1 => obind (avInt .i64 (.int .i64 t2)) fun t2 => lex_run call n t0 t1 t2 t3 h) (avInt_int .i64 t1)) (Eq.trans (obind_eq (fun t2 => lex_run call n t0 t1 t2 t3 h) (avInt_int .i64 t2)) rfl)))
theorem lex_run_holds {call : CallF} (hc : SaysAll Pg call) (n : Nat) : Holds Pg 26 (lex_run_fn call n) := by
 intro args h r h2 e
 unfold lex_run_fn at e
 split at e
 ·replace e := oS e; obtain ⟨t0, c0, e⟩ := e; have c0 := avStr_some c0; subst c0
  replace e := oS e; obtain ⟨t1, c1, e⟩ := e; have c1 := avInt_some c1; subst c1
  replace e := oS e; obtain ⟨t2, c2, e⟩ := e; have c2 := avInt_some c2; subst c2
  exact lex_run_ok hc e
 ·cases e
noncomputable def lex_small (_ : CallF) (_ : Nat) (t0 : Int) (h : AHeap) : R :=
 lett (decide (t0 ≥ 97)) fun (t4 : Bool) =>
 lett (fun (t8 : Bool) (h_4 : AHeap) =>
  some (.ret (.bool t8), h_4)) fun j8 =>
 ifB t4
 (
  lett (decide (t0 ≤ 122)) fun (t7 : Bool) =>
  j8 t7 h)
 (
  j8 false h)
theorem lex_small_ok {call : CallF} (_ : SaysAll Pg call) {n : Nat} {t0 : Int} {h : AHeap} {rR : ARes} {hR : AHeap} (z : lex_small call n t0 h = some (rR, hR)) : Says Pg 16 [.int .u8 t0] h rR hR := by
 unfold lex_small at z
 refine says_of (fn := Tryd.f16) Tryd.func16 (c := codeOf Tryd.f16) (by kernel_rfl) (by kernel_rfl) (fun w0 m0 => ?_)
 refine W.weaken (l' := [(0, .int .u8 t0)]) (Fr.c Fr.n) ?_
 refine W.s (fun _ n1 _ _ p1 => ?_)
 refine W.r ?_
 refine WL.a (some 2) (.bool false) h ?_
 refine WL.n ?_
 refine Go.weaken (l' := [(0, .int .u8 t0)]) (Fr.c Fr.n) ?_
 refine n1 ?_
 refine W.s (fun K2 n2 _ _ p2 => ?_)
 refine W.r ?_
 refine WL.a (some 3) (.int .u8 t0) h ?_
 replace z := lS z; obtain ⟨t4, e3, z⟩ := z
 refine WL.val (d := (some 4)) (v := .bool t4) (h' := h) (by kernel_rfl) (by kernel_rfl) (val_of AV.bool e3 (by kernel_rfl)) ?_
 refine WL.a (some 5) (.bool t4) h ?_
 replace z := lS z; obtain ⟨j8, e5, z⟩ := z
 have J6 : ∀ (t8 : Bool) (h_4 : AHeap), j8 t8 h_4 = some (rR, hR) → WL Pg w0 m0 (Func.ntmps Tryd.f16) (Code.ops (Code.p1 (Code.p2 (codeOf Tryd.f16)))) 6 K2 [(8, .bool t8)] [] h_4 := by
  intro t8 h_4 z
  rw [e5] at z
  refine WL.a (some 2) (.bool t8) h_4 ?_
  refine WL.n ?_
  refine Go.weaken (l' := [(2, .bool t8)]) (Fr.c Fr.n) ?_
  refine n2 ?_
  refine W.ret (by kernel_rfl) ?_
  obtain ⟨z, hF2⟩ := ret_inj z; subst z; subst hF2
  exact leave_of (rs := [.tmp 2]) (vs := [.bool t8]) (by kernel_rfl) (res_tmp (by kernel_rfl) res_nil) (by kernel_rfl)
 cases t4 with
 | true =>
  replace z := ifB_t z
  refine WL.a (some 6) (.int .u8 t0) h ?_
  replace z := lS z; obtain ⟨t7, e7, z⟩ := z
  refine WL.val (d := (some 7)) (v := .bool t7) (h' := h) (by kernel_rfl) (by kernel_rfl) (val_of AV.bool e7 (by kernel_rfl)) ?_
  refine WL.a (some 8) (.bool t7) h ?_
  exact WL.weaken (Fr.c Fr.n) (J6 _ _ z)
 | false =>
  replace z := ifB_f z
  refine WL.o (some 6) ?_
  refine WL.o (some 7) ?_
  refine WL.a (some 8) (.bool false) h ?_
  exact WL.weaken (Fr.c Fr.n) (J6 _ _ z)
noncomputable def lex_small_fn (call : CallF) (n : Nat) : FnT := fun args h => match args with
 | [x0] => obind (avInt .u8 x0) fun t0 => lex_small call n t0 h
 | _ => none
set_option maxRecDepth 100000 in
theorem lex_small_fn_eq (call : CallF) (n : Nat) (t0 : Int) (h : AHeap) : lex_small_fn call n [.int .u8 t0] h = lex_small call n t0 h :=
 (Eq.trans (obind_eq (fun t0 => lex_small call n t0 h) (avInt_int .u8 t0)) rfl)
theorem lex_small_holds {call : CallF} (hc : SaysAll Pg call) (n : Nat) : Holds Pg 16 (lex_small_fn call n) := by
 intro args h r h2 e
 unfold lex_small_fn at e
 split at e
 ·replace e := oS e; obtain ⟨t0, c0, e⟩ := e; have c0 := avInt_some c0; subst c0
  exact lex_small_ok hc e
 ·cases e
noncomputable def lex_digit (_ : CallF) (_ : Nat) (t0 : Int) (h : AHeap) : R :=
 lett (decide (t0 ≥ 48)) fun (t4 : Bool) =>
 lett (fun (t8 : Bool) (h_4 : AHeap) =>
  some (.ret (.bool t8), h_4)) fun j8 =>
 ifB t4
 (
  lett (decide (t0 ≤ 57)) fun (t7 : Bool) =>
  j8 t7 h)
 (
  j8 false h)
theorem lex_digit_ok {call : CallF} (_ : SaysAll Pg call) {n : Nat} {t0 : Int} {h : AHeap} {rR : ARes} {hR : AHeap} (z : lex_digit call n t0 h = some (rR, hR)) : Says Pg 28 [.int .u8 t0] h rR hR := by
 unfold lex_digit at z
 refine says_of (fn := Tryd.f28) Tryd.func28 (c := codeOf Tryd.f28) (by kernel_rfl) (by kernel_rfl) (fun w0 m0 => ?_)
 refine W.weaken (l' := [(0, .int .u8 t0)]) (Fr.c Fr.n) ?_
 refine W.s (fun _ n1 _ _ p1 => ?_)
 refine W.r ?_
 refine WL.a (some 2) (.bool false) h ?_
 refine WL.n ?_
 refine Go.weaken (l' := [(0, .int .u8 t0)]) (Fr.c Fr.n) ?_
 refine n1 ?_
 refine W.s (fun K2 n2 _ _ p2 => ?_)
 refine W.r ?_
 refine WL.a (some 3) (.int .u8 t0) h ?_
 replace z := lS z; obtain ⟨t4, e3, z⟩ := z
 refine WL.val (d := (some 4)) (v := .bool t4) (h' := h) (by kernel_rfl) (by kernel_rfl) (val_of AV.bool e3 (by kernel_rfl)) ?_
 refine WL.a (some 5) (.bool t4) h ?_
 replace z := lS z; obtain ⟨j8, e5, z⟩ := z
 have J6 : ∀ (t8 : Bool) (h_4 : AHeap), j8 t8 h_4 = some (rR, hR) → WL Pg w0 m0 (Func.ntmps Tryd.f28) (Code.ops (Code.p1 (Code.p2 (codeOf Tryd.f28)))) 6 K2 [(8, .bool t8)] [] h_4 := by
  intro t8 h_4 z
  rw [e5] at z
  refine WL.a (some 2) (.bool t8) h_4 ?_
  refine WL.n ?_
  refine Go.weaken (l' := [(2, .bool t8)]) (Fr.c Fr.n) ?_
  refine n2 ?_
  refine W.ret (by kernel_rfl) ?_
  obtain ⟨z, hF2⟩ := ret_inj z; subst z; subst hF2
  exact leave_of (rs := [.tmp 2]) (vs := [.bool t8]) (by kernel_rfl) (res_tmp (by kernel_rfl) res_nil) (by kernel_rfl)
 cases t4 with
 | true =>
  replace z := ifB_t z
  refine WL.a (some 6) (.int .u8 t0) h ?_
  replace z := lS z; obtain ⟨t7, e7, z⟩ := z
  refine WL.val (d := (some 7)) (v := .bool t7) (h' := h) (by kernel_rfl) (by kernel_rfl) (val_of AV.bool e7 (by kernel_rfl)) ?_
  refine WL.a (some 8) (.bool t7) h ?_
  exact WL.weaken (Fr.c Fr.n) (J6 _ _ z)
 | false =>
  replace z := ifB_f z
  refine WL.o (some 6) ?_
  refine WL.o (some 7) ?_
  refine WL.a (some 8) (.bool false) h ?_
  exact WL.weaken (Fr.c Fr.n) (J6 _ _ z)
noncomputable def lex_digit_fn (call : CallF) (n : Nat) : FnT := fun args h => match args with
 | [x0] => obind (avInt .u8 x0) fun t0 => lex_digit call n t0 h
 | _ => none
set_option maxRecDepth 100000 in
theorem lex_digit_fn_eq (call : CallF) (n : Nat) (t0 : Int) (h : AHeap) : lex_digit_fn call n [.int .u8 t0] h = lex_digit call n t0 h :=
 (Eq.trans (obind_eq (fun t0 => lex_digit call n t0 h) (avInt_int .u8 t0)) rfl)
theorem lex_digit_holds {call : CallF} (hc : SaysAll Pg call) (n : Nat) : Holds Pg 28 (lex_digit_fn call n) := by
 intro args h r h2 e
 unfold lex_digit_fn at e
 split at e
 ·replace e := oS e; obtain ⟨t0, c0, e⟩ := e; have c0 := avInt_some c0; subst c0
  exact lex_digit_ok hc e
 ·cases e
noncomputable def lex_blank (_ : CallF) (_ : Nat) (t0 : Int) (h : AHeap) : R :=
 lett ((t0 : Int) == 32) fun (t4 : Bool) =>
 lett (fun (t8 : Bool) (h_4 : AHeap) =>
  some (.ret (.bool t8), h_4)) fun j8 =>
 ifB t4
 (
  j8 true h)
 (
  lett ((t0 : Int) == 9) fun (t7 : Bool) =>
  j8 t7 h)
theorem lex_blank_ok {call : CallF} (_ : SaysAll Pg call) {n : Nat} {t0 : Int} {h : AHeap} {rR : ARes} {hR : AHeap} (z : lex_blank call n t0 h = some (rR, hR)) : Says Pg 30 [.int .u8 t0] h rR hR := by
 unfold lex_blank at z
 refine says_of (fn := Tryd.f30) Tryd.func30 (c := codeOf Tryd.f30) (by kernel_rfl) (by kernel_rfl) (fun w0 m0 => ?_)
 refine W.weaken (l' := [(0, .int .u8 t0)]) (Fr.c Fr.n) ?_
 refine W.s (fun _ n1 _ _ p1 => ?_)
 refine W.r ?_
 refine WL.a (some 2) (.bool false) h ?_
 refine WL.n ?_
 refine Go.weaken (l' := [(0, .int .u8 t0)]) (Fr.c Fr.n) ?_
 refine n1 ?_
 refine W.s (fun K2 n2 _ _ p2 => ?_)
 refine W.r ?_
 refine WL.a (some 3) (.int .u8 t0) h ?_
 replace z := lS z; obtain ⟨t4, e3, z⟩ := z
 refine WL.val (d := (some 4)) (v := .bool t4) (h' := h) (by kernel_rfl) (by kernel_rfl) (val_of AV.bool e3 (by kernel_rfl)) ?_
 refine WL.a (some 5) (.bool t4) h ?_
 replace z := lS z; obtain ⟨j8, e5, z⟩ := z
 have J6 : ∀ (t8 : Bool) (h_4 : AHeap), j8 t8 h_4 = some (rR, hR) → WL Pg w0 m0 (Func.ntmps Tryd.f30) (Code.ops (Code.p1 (Code.p2 (codeOf Tryd.f30)))) 6 K2 [(8, .bool t8)] [] h_4 := by
  intro t8 h_4 z
  rw [e5] at z
  refine WL.a (some 2) (.bool t8) h_4 ?_
  refine WL.n ?_
  refine Go.weaken (l' := [(2, .bool t8)]) (Fr.c Fr.n) ?_
  refine n2 ?_
  refine W.ret (by kernel_rfl) ?_
  obtain ⟨z, hF2⟩ := ret_inj z; subst z; subst hF2
  exact leave_of (rs := [.tmp 2]) (vs := [.bool t8]) (by kernel_rfl) (res_tmp (by kernel_rfl) res_nil) (by kernel_rfl)
 cases t4 with
 | true =>
  replace z := ifB_t z
  refine WL.o (some 6) ?_
  refine WL.o (some 7) ?_
  refine WL.a (some 8) (.bool true) h ?_
  exact WL.weaken (Fr.c Fr.n) (J6 _ _ z)
 | false =>
  replace z := ifB_f z
  refine WL.a (some 6) (.int .u8 t0) h ?_
  replace z := lS z; obtain ⟨t7, e7, z⟩ := z
  refine WL.val (d := (some 7)) (v := .bool t7) (h' := h) (by kernel_rfl) (by kernel_rfl) (val_of AV.bool e7 (by kernel_rfl)) ?_
  refine WL.a (some 8) (.bool t7) h ?_
  exact WL.weaken (Fr.c Fr.n) (J6 _ _ z)
noncomputable def lex_blank_fn (call : CallF) (n : Nat) : FnT := fun args h => match args with
 | [x0] => obind (avInt .u8 x0) fun t0 => lex_blank call n t0 h
 | _ => none
set_option maxRecDepth 100000 in
theorem lex_blank_fn_eq (call : CallF) (n : Nat) (t0 : Int) (h : AHeap) : lex_blank_fn call n [.int .u8 t0] h = lex_blank call n t0 h :=
 (Eq.trans (obind_eq (fun t0 => lex_blank call n t0 h) (avInt_int .u8 t0)) rfl)
theorem lex_blank_holds {call : CallF} (hc : SaysAll Pg call) (n : Nat) : Holds Pg 30 (lex_blank_fn call n) := by
 intro args h r h2 e
 unfold lex_blank_fn at e
 split at e
 ·replace e := oS e; obtain ⟨t0, c0, e⟩ := e; have c0 := avInt_some c0; subst c0
  exact lex_blank_ok hc e
 ·cases e
set_option maxHeartbeats 4000000
set_option maxRecDepth 20000
abbrev smB : Bytes := [48, 48, 48, 49, 48, 50, 48, 51, 48, 52, 48, 53, 48, 54, 48, 55, 48, 56, 48, 57, 49, 48, 49, 49, 49, 50, 49, 51, 49, 52, 49, 53, 49, 54, 49, 55, 49, 56, 49, 57, 50, 48, 50, 49, 50, 50, 50, 51, 50, 52, 50, 53, 50, 54, 50, 55, 50, 56, 50, 57, 51, 48, 51, 49, 51, 50, 51, 51, 51, 52, 51, 53, 51, 54, 51, 55, 51, 56, 51, 57, 52, 48, 52, 49, 52, 50, 52, 51, 52, 52, 52, 53, 52, 54, 52, 55, 52, 56, 52, 57, 53, 48, 53, 49, 53, 50, 53, 51, 53, 52, 53, 53, 53, 54, 53, 55, 53, 56, 53, 57, 54, 48, 54, 49, 54, 50, 54, 51, 54, 52, 54, 53, 54, 54, 54, 55, 54, 56, 54, 57, 55, 48, 55, 49, 55, 50, 55, 51, 55, 52, 55, 53, 55, 54, 55, 55, 55, 56, 55, 57, 56, 48, 56, 49, 56, 50, 56, 51, 56, 52, 56, 53, 56, 54, 56, 55, 56, 56, 56, 57, 57, 48, 57, 49, 57, 50, 57, 51, 57, 52, 57, 53, 57, 54, 57, 55, 57, 56, 57, 57]
noncomputable def strconv_Itoa (call : CallF) (_ : Nat) (t0 : Int) (h : AHeap) : R :=
 callK (call 22 [.int .i64 t0] h) fun r4 h_3 =>
 obind (avStr r4) fun t4 =>
 some (.ret (strA t4), h_3)
theorem strconv_Itoa_ok {call : CallF} (hc : SaysAll Pg call) {n : Nat} {t0 : Int} {h : AHeap} {rR : ARes} {hR : AHeap} (z : strconv_Itoa call n t0 h = some (rR, hR)) : Says Pg 14 [.int .i64 t0] h rR hR := by
 unfold strconv_Itoa at z
 refine says_of (fn := Tryd.f14) Tryd.func14 (c := codeOf Tryd.f14) (by kernel_rfl) (by kernel_rfl) (fun w0 m0 => ?_)
 refine W.weaken (l' := [(0, .int .i64 t0)]) (Fr.c Fr.n) ?_
 refine W.s (fun _ n1 _ _ _ => ?_)
 refine W.r ?_
 refine WL.a (some 2) (strA ([] : Bytes)) h ?_
 refine WL.n ?_
 refine Go.weaken (l' := [(0, .int .i64 t0)]) (Fr.c Fr.n) ?_
 refine n1 ?_
 refine W.s (fun _ n2 _ _ p2 => ?_)
 refine W.r ?_
 refine WL.a (some 3) (.int .i64 t0) h ?_
 replace z := callK_some z; rcases z with ⟨r4, h_3, e4, z⟩ | ⟨r4, h_3, e4, q6⟩
 ·replace z := oS z; obtain ⟨t4, c5, z⟩ := z
  have c5 := avStr_some c5
  subst c5
  refine WL.c (hc.ok w0) (some 4) e4 ?_
  refine WL.a (some 2) (strA t4) h_3 ?_
  refine WL.n ?_
  refine Go.weaken (l' := [(2, strA t4)]) (Fr.c Fr.n) ?_
  refine n2 ?_
  refine W.ret (by kernel_rfl) ?_
  obtain ⟨z, hF2⟩ := ret_inj z; subst z; subst hF2
  exact leave_of (rs := [.tmp 2]) (vs := [strA t4]) (by kernel_rfl) (res_tmp (by kernel_rfl) res_nil) (by kernel_rfl)
 ·obtain ⟨zq, zr⟩ := pan_inj q6; subst zq; subst zr
  exact WL.callPanic (hc.ok w0) (d := (some 4)) (by kernel_rfl) (by kernel_rfl) (by kernel_rfl) e4 (p2 Pan.fin)
noncomputable def strconv_Itoa_fn (call : CallF) (n : Nat) : FnT := fun args h => match args with
 | [x0] => obind (avInt .i64 x0) fun t0 => strconv_Itoa call n t0 h
 | _ => none
set_option maxRecDepth 100000 in
theorem strconv_Itoa_fn_eq (call : CallF) (n : Nat) (t0 : Int) (h : AHeap) : strconv_Itoa_fn call n [.int .i64 t0] h = strconv_Itoa call n t0 h :=
 (Eq.trans (obind_eq (fun t0 => strconv_Itoa call n t0 h) (avInt_int .i64 t0)) rfl)
theorem strconv_Itoa_holds {call : CallF} (hc : SaysAll Pg call) (n : Nat) : Holds Pg 14 (strconv_Itoa_fn call n) := by
 intro args h r h2 e
 unfold strconv_Itoa_fn at e
 split at e
 ·replace e := oS e; obtain ⟨t0, c0, e⟩ := e; have c0 := avInt_some c0; subst c0
  exact strconv_Itoa_ok hc e
 ·cases e
noncomputable def internal_strconv_Itoa (call : CallF) (_ : Nat) (t0 : Int) (h : AHeap) : R :=
 callK (call 33 [.int .i64 t0, .int .i64 10] h) fun r4 h_3 =>
 obind (avStr r4) fun t4 =>
 some (.ret (strA t4), h_3)
theorem internal_strconv_Itoa_ok {call : CallF} (hc : SaysAll Pg call) {n : Nat} {t0 : Int} {h : AHeap} {rR : ARes} {hR : AHeap} (z : internal_strconv_Itoa call n t0 h = some (rR, hR)) : Says Pg 22 [.int .i64 t0] h rR hR := by
 unfold internal_strconv_Itoa at z
 refine says_of (fn := Tryd.f22) Tryd.func22 (c := codeOf Tryd.f22) (by kernel_rfl) (by kernel_rfl) (fun w0 m0 => ?_)
 refine W.weaken (l' := [(0, .int .i64 t0)]) (Fr.c Fr.n) ?_
 refine W.s (fun _ n1 _ _ _ => ?_)
 refine W.r ?_
 refine WL.a (some 2) (strA ([] : Bytes)) h ?_
 refine WL.n ?_
 refine Go.weaken (l' := [(0, .int .i64 t0)]) (Fr.c Fr.n) ?_
 refine n1 ?_
 refine W.s (fun _ n2 _ _ p2 => ?_)
 refine W.r ?_
 refine WL.a (some 3) (.int .i64 t0) h ?_
 replace z := callK_some z; rcases z with ⟨r4, h_3, e4, z⟩ | ⟨r4, h_3, e4, q6⟩
 ·replace z := oS z; obtain ⟨t4, c5, z⟩ := z
  have c5 := avStr_some c5
  subst c5
  refine WL.c (hc.ok w0) (some 4) e4 ?_
  refine WL.a (some 2) (strA t4) h_3 ?_
  refine WL.n ?_
  refine Go.weaken (l' := [(2, strA t4)]) (Fr.c Fr.n) ?_
  refine n2 ?_
  refine W.ret (by kernel_rfl) ?_
  obtain ⟨z, hF2⟩ := ret_inj z; subst z; subst hF2
  exact leave_of (rs := [.tmp 2]) (vs := [strA t4]) (by kernel_rfl) (res_tmp (by kernel_rfl) res_nil) (by kernel_rfl)
 ·obtain ⟨zq, zr⟩ := pan_inj q6; subst zq; subst zr
  exact WL.callPanic (hc.ok w0) (d := (some 4)) (by kernel_rfl) (by kernel_rfl) (by kernel_rfl) e4 (p2 Pan.fin)
noncomputable def internal_strconv_Itoa_fn (call : CallF) (n : Nat) : FnT := fun args h => match args with
 | [x0] => obind (avInt .i64 x0) fun t0 => internal_strconv_Itoa call n t0 h
 | _ => none
set_option maxRecDepth 100000 in
theorem internal_strconv_Itoa_fn_eq (call : CallF) (n : Nat) (t0 : Int) (h : AHeap) : internal_strconv_Itoa_fn call n [.int .i64 t0] h = internal_strconv_Itoa call n t0 h :=
 (Eq.trans (obind_eq (fun t0 => internal_strconv_Itoa call n t0 h) (avInt_int .i64 t0)) rfl)
theorem internal_strconv_Itoa_holds {call : CallF} (hc : SaysAll Pg call) (n : Nat) : Holds Pg 22 (internal_strconv_Itoa_fn call n) := by
 intro args h r h2 e
 unfold internal_strconv_Itoa_fn at e
 split at e
 ·replace e := oS e; obtain ⟨t0, c0, e⟩ := e; have c0 := avInt_some c0; subst c0
  exact internal_strconv_Itoa_ok hc e
 ·cases e
noncomputable def internal_strconv_FormatInt (call : CallF) (_ : Nat) (t0 : Int) (t1 : Int) (h : AHeap) : R :=
 lett ((t1 : Int) == 10) fun (t11 : Bool) =>
 ifB t11
 (
  lett (decide (0 ≤ t0)) fun (t13 : Bool) =>
  lett (fun (t17 : Bool) (h_8 : AHeap) =>
   ifB t17
   (
    callN (call 41 [.int .i64 t0] h_8) fun r19 h_12 =>
    obind (avStr r19) fun t19 =>
    some (.ret (strA t19), h_12))
   (
    lett (newH h_8 68 [.int .u8 0, .int .u8 0, .int .u8 0, .int .u8 0, .int .u8 0, .int .u8 0, .int .u8 0, .int .u8 0, .int .u8 0, .int .u8 0, .int .u8 0, .int .u8 0, .int .u8 0, .int .u8 0, .int .u8 0, .int .u8 0, .int .u8 0, .int .u8 0, .int .u8 0, .int .u8 0, .int .u8 0, .int .u8 0, .int .u8 0, .int .u8 0]) fun h_16 =>
    lett (IntKind.u64.wrap t0) fun (t21 : Int) =>
    lett (decide (t0 < 0)) fun (t23 : Bool) =>
    lett (fun (t6 : Int) (h_24 : AHeap) =>
     callN (call 42 [.int .u64 t6] h_24) fun r27 h_26 =>
     obind (avInt .i64 r27) fun t27 =>
     lett (IntKind.i64.wrap (1 + t27)) fun (t29 : Int) =>
     outK (sliceA Pg h_26 68 (newP h_8) (some (.int .i64 1)) (some (.int .i64 t29))) fun v30 h_31 =>
     callN (call 43 [v30, .int .u64 t6] h_31) fun _ h_33 =>
     lett (decide (t0 < 0)) fun (t34 : Bool) =>
     ifB t34
     (
      obind (idxA 24 1 (newP h_8) 0) fun t35 =>
      obind (stRow h_33 1 [.int .u8 45] t35) fun h_40 =>
      lett (IntKind.i64.wrap (1 + t27)) fun (t37 : Int) =>
      outK (sliceA Pg h_40 68 (newP h_8) none (some (.int .i64 t37))) fun v38 h_44 =>
      outK (opConv Pg h_44 50 9 (some v38)) fun v39 h_46 =>
      obind (avStr v39) fun t39 =>
      some (.ret (strA t39), h_46))
     (
      lett (IntKind.i64.wrap (1 + t27)) fun (t41 : Int) =>
      outK (sliceA Pg h_33 68 (newP h_8) (some (.int .i64 1)) (some (.int .i64 t41))) fun v42 h_51 =>
      outK (opConv Pg h_51 50 9 (some v42)) fun v43 h_53 =>
      obind (avStr v43) fun t43 =>
      some (.ret (strA t43), h_53))) fun k23 =>
    ifB t23
    (
     lett (IntKind.u64.wrap (0 - t21)) fun (t25 : Int) =>
     k23 t25 h_16)
    (
     k23 t21 h_16))) fun j17 =>
  ifB t13
  (
   lett (decide (t0 < 100)) fun (t16 : Bool) =>
   j17 t16 h)
  (
   j17 false h))
 (
  lett (IntKind.u64.wrap t0) fun (t46 : Int) =>
  lett (decide (t0 < 0)) fun (t49 : Bool) =>
  callK (call 44 [AV.nsl, .int .u64 t46, .int .i64 t1, .bool t49, .bool false] h) fun r50 h_61 =>
  obind (extT 0 r50) fun _ =>
  obind (extT 1 r50) fun v52 =>
  obind (avStr v52) fun t52 =>
  some (.ret (strA t52), h_61))
theorem internal_strconv_FormatInt_ok {call : CallF} (hc : SaysAll Pg call) {n : Nat} {t0 : Int} {t1 : Int} {h : AHeap} {rR : ARes} {hR : AHeap} (z : internal_strconv_FormatInt call n t0 t1 h = some (rR, hR)) : Says Pg 33 [.int .i64 t0, .int .i64 t1] h rR hR := by
 unfold internal_strconv_FormatInt at z
 refine says_of (fn := Tryd.f33) Tryd.func33 (c := codeOf Tryd.f33) (by kernel_rfl) (by kernel_rfl) (fun w0 m0 => ?_)
 refine W.weaken (l' := [(0, .int .i64 t0), (1, .int .i64 t1)]) (Fr.c (Fr.c Fr.n)) ?_
 refine W.s (fun _ n1 _ _ p1 => ?_)
 refine W.r ?_
 refine WL.a (some 4) (strA ([] : Bytes)) h ?_
 refine WL.n ?_
 refine Go.weaken (l' := [(0, .int .i64 t0), (1, .int .i64 t1)]) (Fr.c (Fr.c Fr.n)) ?_
 refine n1 ?_
 refine W.s (fun _ n2 _ q2 p2 => ?_)
 refine W.s (fun _ n3 _ _ _ => ?_)
 refine W.r ?_
 refine WL.a (some 10) (.int .i64 t1) h ?_
 replace z := lS z; obtain ⟨t11, e4, z⟩ := z
 refine WL.val (d := (some 11)) (v := .bool t11) (h' := h) (by kernel_rfl) (by kernel_rfl) (val_of AV.bool e4 (by kernel_rfl)) ?_
 refine WL.n ?_
 refine Go.weaken (l' := [(0, .int .i64 t0), (1, .int .i64 t1), (11, .bool t11)]) (Fr.c (Fr.c (Fr.c Fr.n))) ?_
 refine n3 ?_
 cases t11 with
 | true =>
  replace z := ifB_t z
  refine W.t ?_
  refine W.s (fun _ n5 _ q5 _ => ?_)
  refine W.s (fun K6 n6 _ _ _ => ?_)
  refine W.r ?_
  refine WL.a (some 12) (.int .i64 t0) h ?_
  replace z := lS z; obtain ⟨t13, e7, z⟩ := z
  refine WL.val (d := (some 13)) (v := .bool t13) (h' := h) (by kernel_rfl) (by kernel_rfl) (val_of AV.bool e7 (by kernel_rfl)) ?_
  refine WL.a (some 14) (.bool t13) h ?_
  replace z := lS z; obtain ⟨j17, e9, z⟩ := z
  have J10 : ∀ (t17 : Bool) (h_8 : AHeap), j17 t17 h_8 = some (rR, hR) → WL Pg w0 m0 (Func.ntmps Tryd.f33) (Code.ops (Code.p1 (Code.p1 (Code.p1 (Code.p2 (Code.p1 (Code.p2 (codeOf Tryd.f33)))))))) 6 K6 [(0, .int .i64 t0), (17, .bool t17)] [] h_8 := by
   intro t17 h_8 z
   rw [e9] at z
   refine WL.n ?_
   refine Go.weaken (l' := [(0, .int .i64 t0), (17, .bool t17)]) (Fr.c (Fr.c Fr.n)) ?_
   refine n6 ?_
   cases t17 with
   | true =>
    replace z := ifB_t z
    refine W.t ?_
    refine W.s (fun _ n11 _ _ _ => ?_)
    refine W.r ?_
    refine WL.a (some 18) (.int .i64 t0) h_8 ?_
    replace z := callN_some z; obtain ⟨r19, h_12, e13, z⟩ := z
    replace z := oS z; obtain ⟨t19, c14, z⟩ := z
    have c14 := avStr_some c14
    subst c14
    refine WL.c (hc.ok w0) (some 19) e13 ?_
    refine WL.a (some 4) (strA t19) h_12 ?_
    refine WL.n ?_
    refine Go.weaken (l' := [(4, strA t19)]) (Fr.c Fr.n) ?_
    refine n11 ?_
    refine W.ret (by kernel_rfl) ?_
    refine q5 ?_
    refine q2 ?_
    obtain ⟨z, hF2⟩ := ret_inj z; subst z; subst hF2
    exact leave_of (rs := [.tmp 4]) (vs := [strA t19]) (by kernel_rfl) (res_tmp (by kernel_rfl) res_nil) (by kernel_rfl)
   | false =>
    replace z := ifB_f z
    refine W.f ?_
    refine W.skip (by kernel_rfl) ?_
    refine n5 ?_
    refine W.s (fun _ n15 _ _ _ => ?_)
    refine W.r ?_
    replace z := lS z; obtain ⟨h_16, e17, z⟩ := z
    refine WL.val (d := (some 5)) (v := (newP h_8)) (h' := h_16) (by kernel_rfl) (by kernel_rfl) (val_ofH e17 (by kernel_rfl)) ?_
    refine WL.n ?_
    refine Go.weaken (l' := [(0, .int .i64 t0), (5, newP h_8)]) (Fr.c (Fr.c Fr.n)) ?_
    refine n15 ?_
    refine W.s (fun _ n18 _ _ _ => ?_)
    refine W.r ?_
    refine WL.a (some 20) (.int .i64 t0) h_16 ?_
    replace z := lS z; obtain ⟨t21, e19, z⟩ := z
    refine WL.val (d := (some 21)) (v := .int .u64 t21) (h' := h_16) (by kernel_rfl) (by kernel_rfl) (val_of (AV.int .u64) e19 (by kernel_rfl)) ?_
    refine WL.a (some 6) (.int .u64 t21) h_16 ?_
    refine WL.n ?_
    refine Go.weaken (l' := [(0, .int .i64 t0), (5, newP h_8), (6, .int .u64 t21)]) (Fr.c (Fr.c (Fr.c Fr.n))) ?_
    refine n18 ?_
    refine W.s (fun K20 n20 _ _ _ => ?_)
    refine W.s (fun _ n21 _ _ _ => ?_)
    refine W.r ?_
    refine WL.a (some 22) (.int .i64 t0) h_16 ?_
    replace z := lS z; obtain ⟨t23, e22, z⟩ := z
    refine WL.val (d := (some 23)) (v := .bool t23) (h' := h_16) (by kernel_rfl) (by kernel_rfl) (val_of AV.bool e22 (by kernel_rfl)) ?_
    refine WL.n ?_
    refine Go.weaken (l' := [(0, .int .i64 t0), (5, newP h_8), (6, .int .u64 t21), (23, .bool t23)]) (Fr.c (Fr.c (Fr.c (Fr.c Fr.n)))) ?_
    refine n21 ?_
    replace z := lS z; obtain ⟨k23, e23, z⟩ := z
    have J23 : ∀ (t6 : Int) (h_24 : AHeap), k23 t6 h_24 = some (rR, hR) → Go w0 m0 (Func.ntmps Tryd.f33) (K20 .normal) [(0, .int .i64 t0), (5, newP h_8), (6, .int .u64 t6)] [] h_24 := by
     intro t6 h_24 z
     rw [e23] at z
     refine n20 ?_
     refine W.s (fun _ n25 _ _ _ => ?_)
     refine W.r ?_
     refine WL.a (some 26) (.int .u64 t6) h_24 ?_
     replace z := callN_some z; obtain ⟨r27, h_26, e27, z⟩ := z
     replace z := oS z; obtain ⟨t27, c28, z⟩ := z
     have c28 := avInt_some c28
     subst c28
     refine WL.c (hc.ok w0) (some 27) e27 ?_
     refine WL.a (some 7) (.int .i64 t27) h_26 ?_
     refine WL.n ?_
     refine Go.weaken (l' := [(0, .int .i64 t0), (5, newP h_8), (6, .int .u64 t6), (7, .int .i64 t27)]) (Fr.c (Fr.c (Fr.c (Fr.c Fr.n)))) ?_
     refine n25 ?_
     refine W.s (fun _ n29 _ _ _ => ?_)
     refine W.r ?_
     refine WL.a (some 28) (.int .i64 t27) h_26 ?_
     replace z := lS z; obtain ⟨t29, e30, z⟩ := z
     refine WL.val (d := (some 29)) (v := .int .i64 t29) (h' := h_26) (by kernel_rfl) (by kernel_rfl) (val_of (AV.int .i64) e30 (by kernel_rfl)) ?_
     replace z := outK_some z; obtain ⟨v30, h_31, e32, z⟩ := z
     refine WL.b (some 30) v30 h_31 e32 ?_
     refine WL.a (some 31) (.int .u64 t6) h_31 ?_
     replace z := callN_some z; obtain ⟨r32, h_33, e34, z⟩ := z
     refine WL.c (hc.ok w0) (some 32) e34 ?_
     refine WL.n ?_
     refine Go.weaken (l' := [(0, .int .i64 t0), (5, newP h_8), (7, .int .i64 t27)]) (Fr.c (Fr.c (Fr.c Fr.n))) ?_
     refine n29 ?_
     refine W.s (fun _ n35 _ q35 _ => ?_)
     refine W.s (fun _ n36 _ _ _ => ?_)
     refine W.r ?_
     refine WL.a (some 33) (.int .i64 t0) h_33 ?_
     replace z := lS z; obtain ⟨t34, e37, z⟩ := z
     refine WL.val (d := (some 34)) (v := .bool t34) (h' := h_33) (by kernel_rfl) (by kernel_rfl) (val_of AV.bool e37 (by kernel_rfl)) ?_
     refine WL.n ?_
     refine Go.weaken (l' := [(5, newP h_8), (7, .int .i64 t27), (34, .bool t34)]) (Fr.c (Fr.c (Fr.c Fr.n))) ?_
     refine n36 ?_
     cases t34 with
     | true =>
      replace z := ifB_t z
      refine W.t ?_
      refine W.s (fun _ n38 _ _ _ => ?_)
      refine W.r ?_
      replace z := oS z; obtain ⟨t35, e39, z⟩ := z
      refine WL.b (some 35) t35 h_33 (index_arr (P := Pg) (h := h_33) (t := 68) (e' := 5) (k := .i64) (by kernel_rfl) (by kernel_rfl) (by kernel_rfl) e39) ?_
      replace z := oS z; obtain ⟨h_40, e41, z⟩ := z
      refine WL.e h_40 (store_row (P := Pg) (h := h_33) (t := 5) (v := (.int .u8 45)) (by kernel_rfl) (by kernel_rfl) e41) ?_
      refine WL.n ?_
      refine Go.weaken (l' := [(5, newP h_8), (7, .int .i64 t27)]) (Fr.c (Fr.c Fr.n)) ?_
      refine n38 ?_
      refine W.s (fun _ n42 _ _ _ => ?_)
      refine W.r ?_
      refine WL.a (some 36) (.int .i64 t27) h_40 ?_
      replace z := lS z; obtain ⟨t37, e43, z⟩ := z
      refine WL.val (d := (some 37)) (v := .int .i64 t37) (h' := h_40) (by kernel_rfl) (by kernel_rfl) (val_of (AV.int .i64) e43 (by kernel_rfl)) ?_
      replace z := outK_some z; obtain ⟨v38, h_44, e45, z⟩ := z
      refine WL.b (some 38) v38 h_44 e45 ?_
      replace z := outK_some z; obtain ⟨v39, h_46, e47, z⟩ := z
      replace z := oS z; obtain ⟨t39, c48, z⟩ := z
      have c48 := avStr_some c48
      subst c48
      refine WL.b (some 39) (strA t39) h_46 e47 ?_
      refine WL.a (some 4) (strA t39) h_46 ?_
      refine WL.n ?_
      refine Go.weaken (l' := [(4, strA t39)]) (Fr.c Fr.n) ?_
      refine n42 ?_
      refine W.ret (by kernel_rfl) ?_
      refine q35 ?_
      refine q2 ?_
      obtain ⟨z, hF2⟩ := ret_inj z; subst z; subst hF2
      exact leave_of (rs := [.tmp 4]) (vs := [strA t39]) (by kernel_rfl) (res_tmp (by kernel_rfl) res_nil) (by kernel_rfl)
     | false =>
      replace z := ifB_f z
      refine W.f ?_
      refine W.skip (by kernel_rfl) ?_
      refine n35 ?_
      refine W.s (fun _ n49 _ _ _ => ?_)
      refine W.r ?_
      refine WL.a (some 40) (.int .i64 t27) h_33 ?_
      replace z := lS z; obtain ⟨t41, e50, z⟩ := z
      refine WL.val (d := (some 41)) (v := .int .i64 t41) (h' := h_33) (by kernel_rfl) (by kernel_rfl) (val_of (AV.int .i64) e50 (by kernel_rfl)) ?_
      replace z := outK_some z; obtain ⟨v42, h_51, e52, z⟩ := z
      refine WL.b (some 42) v42 h_51 e52 ?_
      replace z := outK_some z; obtain ⟨v43, h_53, e54, z⟩ := z
      replace z := oS z; obtain ⟨t43, c55, z⟩ := z
      have c55 := avStr_some c55
      subst c55
      refine WL.b (some 43) (strA t43) h_53 e54 ?_
      refine WL.a (some 4) (strA t43) h_53 ?_
      refine WL.n ?_
      refine Go.weaken (l' := [(4, strA t43)]) (Fr.c Fr.n) ?_
      refine n49 ?_
      refine W.ret (by kernel_rfl) ?_
      refine q2 ?_
      obtain ⟨z, hF2⟩ := ret_inj z; subst z; subst hF2
      exact leave_of (rs := [.tmp 4]) (vs := [strA t43]) (by kernel_rfl) (res_tmp (by kernel_rfl) res_nil) (by kernel_rfl)
    cases t23 with
    | true =>
     replace z := ifB_t z
     refine W.t ?_
     refine W.r ?_
     refine WL.a (some 24) (.int .u64 t21) h_16 ?_
     replace z := lS z; obtain ⟨t25, e56, z⟩ := z
     refine WL.val (d := (some 25)) (v := .int .u64 t25) (h' := h_16) (by kernel_rfl) (by kernel_rfl) (val_of (AV.int .u64) e56 (by kernel_rfl)) ?_
     refine WL.a (some 6) (.int .u64 t25) h_16 ?_
     refine WL.n ?_
     refine Go.weaken (l' := [(0, .int .i64 t0), (5, newP h_8), (6, .int .u64 t25)]) (Fr.c (Fr.c (Fr.c Fr.n))) ?_
     exact Go.weaken (Fr.c (Fr.c (Fr.c Fr.n))) (J23 _ _ z)
    | false =>
     replace z := ifB_f z
     refine W.f ?_
     refine W.skip (by kernel_rfl) ?_
     exact Go.weaken (Fr.c (Fr.c (Fr.c Fr.n))) (J23 _ _ z)
  cases t13 with
  | true =>
   replace z := ifB_t z
   refine WL.a (some 15) (.int .i64 t0) h ?_
   replace z := lS z; obtain ⟨t16, e57, z⟩ := z
   refine WL.val (d := (some 16)) (v := .bool t16) (h' := h) (by kernel_rfl) (by kernel_rfl) (val_of AV.bool e57 (by kernel_rfl)) ?_
   refine WL.a (some 17) (.bool t16) h ?_
   exact WL.weaken (Fr.c (Fr.c Fr.n)) (J10 _ _ z)
  | false =>
   replace z := ifB_f z
   refine WL.o (some 15) ?_
   refine WL.o (some 16) ?_
   refine WL.a (some 17) (.bool false) h ?_
   exact WL.weaken (Fr.c (Fr.c Fr.n)) (J10 _ _ z)
 | false =>
  replace z := ifB_f z
  refine W.f ?_
  refine W.skip (by kernel_rfl) ?_
  refine n2 ?_
  refine W.s (fun _ n58 _ _ p58 => ?_)
  refine W.r ?_
  refine WL.a (some 45) (.int .i64 t0) h ?_
  replace z := lS z; obtain ⟨t46, e59, z⟩ := z
  refine WL.val (d := (some 46)) (v := .int .u64 t46) (h' := h) (by kernel_rfl) (by kernel_rfl) (val_of (AV.int .u64) e59 (by kernel_rfl)) ?_
  refine WL.a (some 47) (.int .i64 t1) h ?_
  refine WL.a (some 48) (.int .i64 t0) h ?_
  replace z := lS z; obtain ⟨t49, e60, z⟩ := z
  refine WL.val (d := (some 49)) (v := .bool t49) (h' := h) (by kernel_rfl) (by kernel_rfl) (val_of AV.bool e60 (by kernel_rfl)) ?_
  replace z := callK_some z; rcases z with ⟨r50, h_61, e62, z⟩ | ⟨r50, h_61, e62, q67⟩
  ·refine WL.c (hc.ok w0) (some 50) e62 ?_
   refine WL.a (some 44) r50 h_61 ?_
   replace z := oS z; obtain ⟨v51, e63, z⟩ := z
   refine WL.b (some 51) v51 h_61 (extract_tup (h := h_61) e63) ?_
   replace z := oS z; obtain ⟨v52, e64, z⟩ := z
   replace z := oS z; obtain ⟨t52, c65, z⟩ := z
   have c65 := avStr_some c65
   subst c65
   refine WL.b (some 52) (strA t52) h_61 (extract_tup (h := h_61) e64) ?_
   refine WL.a (some 8) v51 h_61 ?_
   refine WL.a (some 9) (strA t52) h_61 ?_
   refine WL.n ?_
   refine Go.weaken (l' := [(9, strA t52)]) (Fr.c Fr.n) ?_
   refine n58 ?_
   refine W.s (fun _ n66 _ _ _ => ?_)
   refine W.r ?_
   refine WL.a (some 53) (strA t52) h_61 ?_
   refine WL.a (some 4) (strA t52) h_61 ?_
   refine WL.n ?_
   refine Go.weaken (l' := [(4, strA t52)]) (Fr.c Fr.n) ?_
   refine n66 ?_
   refine W.ret (by kernel_rfl) ?_
   obtain ⟨z, hF2⟩ := ret_inj z; subst z; subst hF2
   exact leave_of (rs := [.tmp 4]) (vs := [strA t52]) (by kernel_rfl) (res_tmp (by kernel_rfl) res_nil) (by kernel_rfl)
  ·obtain ⟨zq, zr⟩ := pan_inj q67; subst zq; subst zr
   exact WL.callPanic (hc.ok w0) (d := (some 50)) (by kernel_rfl) (by kernel_rfl) (by kernel_rfl) e62 (p58 Pan.fin)
noncomputable def internal_strconv_FormatInt_fn (call : CallF) (n : Nat) : FnT := fun args h => match args with
 | [x0, x1] => obind (avInt .i64 x0) fun t0 => obind (avInt .i64 x1) fun t1 => internal_strconv_FormatInt call n t0 t1 h
 | _ => none
set_option maxRecDepth 100000 in
theorem internal_strconv_FormatInt_fn_eq (call : CallF) (n : Nat) (t0 : Int) (t1 : Int) (h : AHeap) : internal_strconv_FormatInt_fn call n [.int .i64 t0, .int .i64 t1] h = internal_strconv_FormatInt call n t0 t1 h :=
 (Eq.trans (obind_eq (fun t0 => obind (avInt .i64 (.int .i64 t1)) fun t1 => internal_strconv_FormatInt call n t0 t1 h) (avInt_int .i64 t0)) (Eq.trans (obind_eq (fun t1 => internal_strconv_FormatInt call n t0 t1 h) (avInt_int .i64 t1)) rfl))
theorem internal_strconv_FormatInt_holds {call : CallF} (hc : SaysAll Pg call) (n : Nat) : Holds Pg 33 (internal_strconv_FormatInt_fn call n) := by
 intro args h r h2 e
 unfold internal_strconv_FormatInt_fn at e
 split at e
 ·replace e := oS e; obtain ⟨t0, c0, e⟩ := e; have c0 := avInt_some c0; subst c0
  replace e := oS e; obtain ⟨t1, c1, e⟩ := e; have c1 := avInt_some c1; subst c1
  exact internal_strconv_FormatInt_ok hc e
 ·cases e
noncomputable def internal_strconv_small (_ : CallF) (_ : Nat) (t0 : Int) (h : AHeap) : R :=
 lett (decide (t0 < 10)) fun (t4 : Bool) =>
 ifB t4
 (
  lett (IntKind.i64.wrap (t0 + 1)) fun (t7 : Int) =>
  obind (sliceS ([48, 49, 50, 51, 52, 53, 54, 55, 56, 57, 97, 98, 99, 100, 101, 102, 103, 104, 105, 106, 107, 108, 109, 110, 111, 112, 113, 114, 115, 116, 117, 118, 119, 120, 121, 122] : Bytes) t0 t7) fun t8 =>
  some (.ret (strA t8), h))
 (
  lett (IntKind.i64.wrap (t0 * 2)) fun (t10 : Int) =>
  lett (IntKind.i64.wrap (t0 * 2)) fun (t12 : Int) =>
  lett (IntKind.i64.wrap (t12 + 2)) fun (t13 : Int) =>
  obind (sliceS smB t10 t13) fun t14 =>
  some (.ret (strA t14), h))
theorem internal_strconv_small_ok {call : CallF} (_ : SaysAll Pg call) {n : Nat} {t0 : Int} {h : AHeap} {rR : ARes} {hR : AHeap} (z : internal_strconv_small call n t0 h = some (rR, hR)) : Says Pg 41 [.int .i64 t0] h rR hR := by
 unfold internal_strconv_small at z
 refine says_of (fn := Tryd.f41) Tryd.func41 (c := codeOf Tryd.f41) (by kernel_rfl) (by kernel_rfl) (fun w0 m0 => ?_)
 refine W.weaken (l' := [(0, .int .i64 t0)]) (Fr.c Fr.n) ?_
 refine W.s (fun _ n1 _ _ _ => ?_)
 refine W.r ?_
 refine WL.a (some 2) (strA ([] : Bytes)) h ?_
 refine WL.n ?_
 refine Go.weaken (l' := [(0, .int .i64 t0)]) (Fr.c Fr.n) ?_
 refine n1 ?_
 refine W.s (fun _ n2 _ q2 _ => ?_)
 refine W.s (fun _ n3 _ _ _ => ?_)
 refine W.r ?_
 refine WL.a (some 3) (.int .i64 t0) h ?_
 replace z := lS z; obtain ⟨t4, e4, z⟩ := z
 refine WL.val (d := (some 4)) (v := .bool t4) (h' := h) (by kernel_rfl) (by kernel_rfl) (val_of AV.bool e4 (by kernel_rfl)) ?_
 refine WL.n ?_
 refine Go.weaken (l' := [(0, .int .i64 t0), (4, .bool t4)]) (Fr.c (Fr.c Fr.n)) ?_
 refine n3 ?_
 cases t4 with
 | true =>
  replace z := ifB_t z
  refine W.t ?_
  refine W.s (fun _ n5 _ _ _ => ?_)
  refine W.r ?_
  refine WL.a (some 5) (.int .i64 t0) h ?_
  refine WL.a (some 6) (.int .i64 t0) h ?_
  replace z := lS z; obtain ⟨t7, e6, z⟩ := z
  refine WL.val (d := (some 7)) (v := .int .i64 t7) (h' := h) (by kernel_rfl) (by kernel_rfl) (val_of (AV.int .i64) e6 (by kernel_rfl)) ?_
  replace z := oS z; obtain ⟨t8, e7, z⟩ := z
  refine WL.b (some 8) (strA t8) h (slice_str (P := Pg) (h := h) (t := 9) (A := (some (.int .i64 t0))) (B := (some (.int .i64 t7))) (by kernel_rfl) (.inl ⟨_, rfl⟩) (.inl ⟨_, rfl⟩) e7) ?_
  refine WL.a (some 2) (strA t8) h ?_
  refine WL.n ?_
  refine Go.weaken (l' := [(2, strA t8)]) (Fr.c Fr.n) ?_
  refine n5 ?_
  refine W.ret (by kernel_rfl) ?_
  refine q2 ?_
  obtain ⟨z, hF2⟩ := ret_inj z; subst z; subst hF2
  exact leave_of (rs := [.tmp 2]) (vs := [strA t8]) (by kernel_rfl) (res_tmp (by kernel_rfl) res_nil) (by kernel_rfl)
 | false =>
  replace z := ifB_f z
  refine W.f ?_
  refine W.skip (by kernel_rfl) ?_
  refine n2 ?_
  refine W.s (fun _ n8 _ _ _ => ?_)
  refine W.r ?_
  refine WL.a (some 9) (.int .i64 t0) h ?_
  replace z := lS z; obtain ⟨t10, e9, z⟩ := z
  refine WL.val (d := (some 10)) (v := .int .i64 t10) (h' := h) (by kernel_rfl) (by kernel_rfl) (val_of (AV.int .i64) e9 (by kernel_rfl)) ?_
  refine WL.a (some 11) (.int .i64 t0) h ?_
  replace z := lS z; obtain ⟨t12, e10, z⟩ := z
  refine WL.val (d := (some 12)) (v := .int .i64 t12) (h' := h) (by kernel_rfl) (by kernel_rfl) (val_of (AV.int .i64) e10 (by kernel_rfl)) ?_
  replace z := lS z; obtain ⟨t13, e11, z⟩ := z
  refine WL.val (d := (some 13)) (v := .int .i64 t13) (h' := h) (by kernel_rfl) (by kernel_rfl) (val_of (AV.int .i64) e11 (by kernel_rfl)) ?_
  replace z := oS z; obtain ⟨t14, e12, z⟩ := z
  refine WL.b (some 14) (strA t14) h (slice_str (P := Pg) (h := h) (t := 9) (A := (some (.int .i64 t10))) (B := (some (.int .i64 t13))) (by kernel_rfl) (.inl ⟨_, rfl⟩) (.inl ⟨_, rfl⟩) e12) ?_
  refine WL.a (some 2) (strA t14) h ?_
  refine WL.n ?_
  refine Go.weaken (l' := [(2, strA t14)]) (Fr.c Fr.n) ?_
  refine n8 ?_
  refine W.ret (by kernel_rfl) ?_
  obtain ⟨z, hF2⟩ := ret_inj z; subst z; subst hF2
  exact leave_of (rs := [.tmp 2]) (vs := [strA t14]) (by kernel_rfl) (res_tmp (by kernel_rfl) res_nil) (by kernel_rfl)
noncomputable def internal_strconv_small_fn (call : CallF) (n : Nat) : FnT := fun args h => match args with
 | [x0] => obind (avInt .i64 x0) fun t0 => internal_strconv_small call n t0 h
 | _ => none
set_option maxRecDepth 100000 in
theorem internal_strconv_small_fn_eq (call : CallF) (n : Nat) (t0 : Int) (h : AHeap) : internal_strconv_small_fn call n [.int .i64 t0] h = internal_strconv_small call n t0 h :=
 (Eq.trans (obind_eq (fun t0 => internal_strconv_small call n t0 h) (avInt_int .i64 t0)) rfl)
theorem internal_strconv_small_holds {call : CallF} (hc : SaysAll Pg call) (n : Nat) : Holds Pg 41 (internal_strconv_small_fn call n) := by
 intro args h r h2 e
 unfold internal_strconv_small_fn at e
 split at e
 ·replace e := oS e; obtain ⟨t0, c0, e⟩ := e; have c0 := avInt_some c0; subst c0
  exact internal_strconv_small_ok hc e
 ·cases e
noncomputable def internal_strconv_numDigits (call : CallF) (_ : Nat) (t0 : Int) (h : AHeap) : R :=
 callN (call 48 [.int .u64 t0] h) fun r5 h_3 =>
 obind (avInt .i64 r5) fun t5 =>
 callN (call 47 [.int .i64 t5] h_3) fun r6 h_6 =>
 obind (avInt .i64 r6) fun t6 =>
 obind (idxA 20 1 (AV.gptr 0 0) t6) fun t10 =>
 obind (ldCell h_6 t10) fun v11 =>
 obind (avInt .u64 v11) fun t11 =>
 lett (decide (t0 ≥ t11)) fun (t12 : Bool) =>
 callN (call 49 [.bool t12] h_6) fun r13 h_14 =>
 obind (avInt .i64 r13) fun t13 =>
 lett (IntKind.i64.wrap (t6 + t13)) fun (t14 : Int) =>
 some (.ret (.int .i64 t14), h_14)
theorem internal_strconv_numDigits_ok {call : CallF} (hc : SaysAll Pg call) {n : Nat} {t0 : Int} {h : AHeap} {rR : ARes} {hR : AHeap} (z : internal_strconv_numDigits call n t0 h = some (rR, hR)) : Says Pg 42 [.int .u64 t0] h rR hR := by
 unfold internal_strconv_numDigits at z
 refine says_of (fn := Tryd.f42) Tryd.func42 (c := codeOf Tryd.f42) (by kernel_rfl) (by kernel_rfl) (fun w0 m0 => ?_)
 refine W.weaken (l' := [(0, .int .u64 t0)]) (Fr.c Fr.n) ?_
 refine W.s (fun _ n1 _ _ _ => ?_)
 refine W.r ?_
 refine WL.a (some 2) (.int .i64 0) h ?_
 refine WL.n ?_
 refine Go.weaken (l' := [(0, .int .u64 t0)]) (Fr.c Fr.n) ?_
 refine n1 ?_
 refine W.s (fun _ n2 _ _ _ => ?_)
 refine W.r ?_
 refine WL.a (some 4) (.int .u64 t0) h ?_
 replace z := callN_some z; obtain ⟨r5, h_3, e4, z⟩ := z
 replace z := oS z; obtain ⟨t5, c5, z⟩ := z
 have c5 := avInt_some c5
 subst c5
 refine WL.c (hc.ok w0) (some 5) e4 ?_
 replace z := callN_some z; obtain ⟨r6, h_6, e7, z⟩ := z
 replace z := oS z; obtain ⟨t6, c8, z⟩ := z
 have c8 := avInt_some c8
 subst c8
 refine WL.c (hc.ok w0) (some 6) e7 ?_
 refine WL.a (some 3) (.int .i64 t6) h_6 ?_
 refine WL.n ?_
 refine Go.weaken (l' := [(0, .int .u64 t0), (3, .int .i64 t6)]) (Fr.c (Fr.c Fr.n)) ?_
 refine n2 ?_
 refine W.s (fun _ n9 _ _ _ => ?_)
 refine W.r ?_
 refine WL.a (some 7) (.int .i64 t6) h_6 ?_
 refine WL.a (some 8) (.int .u64 t0) h_6 ?_
 refine WL.a (some 9) (.int .i64 t6) h_6 ?_
 replace z := oS z; obtain ⟨t10, e10, z⟩ := z
 refine WL.b (some 10) t10 h_6 (index_arr (P := Pg) (h := h_6) (t := 80) (e' := 69) (k := .i64) (by kernel_rfl) (by kernel_rfl) (by kernel_rfl) e10) ?_
 replace z := oS z; obtain ⟨v11, e11, z⟩ := z
 replace z := oS z; obtain ⟨t11, c12, z⟩ := z
 have c12 := avInt_some c12
 subst c12
 refine WL.b (some 11) (.int .u64 t11) h_6 (load_cell (P := Pg) (h := h_6) (t := 69) (by kernel_rfl) e11) ?_
 replace z := lS z; obtain ⟨t12, e13, z⟩ := z
 refine WL.val (d := (some 12)) (v := .bool t12) (h' := h_6) (by kernel_rfl) (by kernel_rfl) (val_of AV.bool e13 (by kernel_rfl)) ?_
 replace z := callN_some z; obtain ⟨r13, h_14, e15, z⟩ := z
 replace z := oS z; obtain ⟨t13, c16, z⟩ := z
 have c16 := avInt_some c16
 subst c16
 refine WL.c (hc.ok w0) (some 13) e15 ?_
 replace z := lS z; obtain ⟨t14, e17, z⟩ := z
 refine WL.val (d := (some 14)) (v := .int .i64 t14) (h' := h_14) (by kernel_rfl) (by kernel_rfl) (val_of (AV.int .i64) e17 (by kernel_rfl)) ?_
 refine WL.a (some 2) (.int .i64 t14) h_14 ?_
 refine WL.n ?_
 refine Go.weaken (l' := [(2, .int .i64 t14)]) (Fr.c Fr.n) ?_
 refine n9 ?_
 refine W.ret (by kernel_rfl) ?_
 obtain ⟨z, hF2⟩ := ret_inj z; subst z; subst hF2
 exact leave_of (rs := [.tmp 2]) (vs := [.int .i64 t14]) (by kernel_rfl) (res_tmp (by kernel_rfl) res_nil) (by kernel_rfl)
noncomputable def internal_strconv_numDigits_fn (call : CallF) (n : Nat) : FnT := fun args h => match args with
 | [x0] => obind (avInt .u64 x0) fun t0 => internal_strconv_numDigits call n t0 h
 | _ => none
set_option maxRecDepth 100000 in
theorem internal_strconv_numDigits_fn_eq (call : CallF) (n : Nat) (t0 : Int) (h : AHeap) : internal_strconv_numDigits_fn call n [.int .u64 t0] h = internal_strconv_numDigits call n t0 h :=
 (Eq.trans (obind_eq (fun t0 => internal_strconv_numDigits call n t0 h) (avInt_int .u64 t0)) rfl)
theorem internal_strconv_numDigits_holds {call : CallF} (hc : SaysAll Pg call) (n : Nat) : Holds Pg 42 (internal_strconv_numDigits_fn call n) := by
 intro args h r h2 e
 unfold internal_strconv_numDigits_fn at e
 split at e
 ·replace e := oS e; obtain ⟨t0, c0, e⟩ := e; have c0 := avInt_some c0; subst c0
  exact internal_strconv_numDigits_ok hc e
 ·cases e
noncomputable def internal_strconv_formatBase10_L0b (t0 : AV) (k5 : Int → Int → AHeap → R) (self : Int → Int → AHeap → R) (t1_85 : Int) (t4_86 : Int) (h_87 : AHeap) : R :=
 lett (decide (t4_86 ≥ 8)) fun (t20 : Bool) =>
 ifB t20
 (
  obind (remI .u64 t1_85 100000000) fun t22 =>
  lett (IntKind.u32.wrap t22) fun (t23 : Int) =>
  obind (quoI .u64 t1_85 100000000) fun t25 =>
  obind (quoI .u32 t23 10000) fun t27 =>
  obind (remI .u32 t23 10000) fun t29 =>
  obind (quoI .u32 t29 100) fun t31 =>
  lett (IntKind.u32.wrap (t31 * 2)) fun (t32 : Int) =>
  obind (remI .u32 t29 100) fun t34 =>
  lett (IntKind.u32.wrap (t34 * 2)) fun (t35 : Int) =>
  obind (quoI .u32 t27 100) fun t37 =>
  lett (IntKind.u32.wrap (t37 * 2)) fun (t38 : Int) =>
  obind (remI .u32 t27 100) fun t40 =>
  lett (IntKind.u32.wrap (t40 * 2)) fun (t41 : Int) =>
  lett (IntKind.i64.wrap (t4_86 - 1)) fun (t44 : Int) =>
  lett (IntKind.i64.wrap (t4_86 - 2)) fun (t47 : Int) =>
  lett (IntKind.u32.wrap (t35 + 1)) fun (t49 : Int) =>
  obind (idxS smB t49) fun t50 =>
  obind (idxS smB t35) fun t52 =>
  obind (idxP 1 t0 t44) fun t53 =>
  obind (stRow h_87 1 [.int .u8 t50] t53) fun h_117 =>
  obind (idxP 1 t0 t47) fun t54 =>
  obind (stRow h_117 1 [.int .u8 t52] t54) fun h_120 =>
  lett (IntKind.i64.wrap (t4_86 - 3)) fun (t57 : Int) =>
  lett (IntKind.i64.wrap (t4_86 - 4)) fun (t60 : Int) =>
  lett (IntKind.u32.wrap (t32 + 1)) fun (t62 : Int) =>
  obind (idxS smB t62) fun t63 =>
  obind (idxS smB t32) fun t65 =>
  obind (idxP 1 t0 t57) fun t66 =>
  obind (stRow h_120 1 [.int .u8 t63] t66) fun h_129 =>
  obind (idxP 1 t0 t60) fun t67 =>
  obind (stRow h_129 1 [.int .u8 t65] t67) fun h_132 =>
  lett (IntKind.i64.wrap (t4_86 - 5)) fun (t70 : Int) =>
  lett (IntKind.i64.wrap (t4_86 - 6)) fun (t73 : Int) =>
  lett (IntKind.u32.wrap (t41 + 1)) fun (t75 : Int) =>
  obind (idxS smB t75) fun t76 =>
  obind (idxS smB t41) fun t78 =>
  obind (idxP 1 t0 t70) fun t79 =>
  obind (stRow h_132 1 [.int .u8 t76] t79) fun h_141 =>
  obind (idxP 1 t0 t73) fun t80 =>
  obind (stRow h_141 1 [.int .u8 t78] t80) fun h_144 =>
  lett (IntKind.i64.wrap (t4_86 - 7)) fun (t83 : Int) =>
  lett (IntKind.i64.wrap (t4_86 - 8)) fun (t86 : Int) =>
  lett (IntKind.u32.wrap (t38 + 1)) fun (t88 : Int) =>
  obind (idxS smB t88) fun t89 =>
  obind (idxS smB t38) fun t91 =>
  obind (idxP 1 t0 t83) fun t92 =>
  obind (stRow h_144 1 [.int .u8 t89] t92) fun h_153 =>
  obind (idxP 1 t0 t86) fun t93 =>
  obind (stRow h_153 1 [.int .u8 t91] t93) fun h_156 =>
  lett (IntKind.i64.wrap (t4_86 - 8)) fun (t95 : Int) =>
  self t25 t95 h_156)
 (
  k5 t1_85 t4_86 h_87)
noncomputable def internal_strconv_formatBase10_L0 (t0 : AV) (k5 : Int → Int → AHeap → R) : Nat → Int → Int → AHeap → R := iterR (fun _ _ _ => none) (internal_strconv_formatBase10_L0b t0 k5)
theorem internal_strconv_formatBase10_L0_s (t0 : AV) (k5 : Int → Int → AHeap → R) (m : Nat) : internal_strconv_formatBase10_L0 t0 k5 (m + 1) = internal_strconv_formatBase10_L0b t0 k5 (internal_strconv_formatBase10_L0 t0 k5 m) := rfl
noncomputable def internal_strconv_formatBase10 (_ : CallF) (n : Nat) (t0 : AV) (t1 : Int) (h : AHeap) : R :=
 obind (lenL t0) fun t18 =>
 lett (fun (t1_6 : Int) (t4 : Int) (h_7 : AHeap) =>
  lett (IntKind.u32.wrap t1_6) fun (t97 : Int) =>
  lett (decide (t4 ≥ 4)) fun (t99 : Bool) =>
  lett (fun (t4_14 : Int) (t12 : Int) (h_15 : AHeap) =>
   lett (decide (t4_14 ≥ 2)) fun (t139 : Bool) =>
   lett (fun (t4_20 : Int) (t12_21 : Int) (h_22 : AHeap) =>
    lett (decide (t4_20 > 0)) fun (t161 : Bool) =>
    lett (fun  (h_26 : AHeap) =>
     some (.ret (.tup []), h_26)) fun k25 =>
    ifB t161
    (
     lett (IntKind.u32.wrap (48 + t12_21)) fun (t164 : Int) =>
     lett (IntKind.u8.wrap t164) fun (t165 : Int) =>
     obind (idxP 1 t0 0) fun t166 =>
     obind (stRow h_22 1 [.int .u8 t165] t166) fun h_30 =>
     k25 h_30)
    (
     k25 h_22)) fun k19 =>
   ifB t139
   (
    obind (remI .u32 t12 100) fun t141 =>
    lett (IntKind.u32.wrap (t141 * 2)) fun (t142 : Int) =>
    obind (quoI .u32 t12 100) fun t144 =>
    lett (IntKind.i64.wrap (t4_14 - 1)) fun (t147 : Int) =>
    lett (IntKind.i64.wrap (t4_14 - 2)) fun (t150 : Int) =>
    lett (IntKind.u32.wrap (t142 + 1)) fun (t152 : Int) =>
    obind (idxS smB t152) fun t153 =>
    obind (idxS smB t142) fun t155 =>
    obind (idxP 1 t0 t147) fun t156 =>
    obind (stRow h_15 1 [.int .u8 t153] t156) fun h_44 =>
    obind (idxP 1 t0 t150) fun t157 =>
    obind (stRow h_44 1 [.int .u8 t155] t157) fun h_47 =>
    lett (IntKind.i64.wrap (t4_14 - 2)) fun (t159 : Int) =>
    k19 t159 t144 h_47)
   (
    k19 t4_14 t12 h_15)) fun k13 =>
  ifB t99
  (
   obind (remI .u32 t97 10000) fun t101 =>
   obind (quoI .u32 t97 10000) fun t103 =>
   obind (quoI .u32 t101 100) fun t105 =>
   lett (IntKind.u32.wrap (t105 * 2)) fun (t106 : Int) =>
   obind (remI .u32 t101 100) fun t108 =>
   lett (IntKind.u32.wrap (t108 * 2)) fun (t109 : Int) =>
   lett (IntKind.i64.wrap (t4 - 1)) fun (t112 : Int) =>
   lett (IntKind.i64.wrap (t4 - 2)) fun (t115 : Int) =>
   lett (IntKind.u32.wrap (t109 + 1)) fun (t117 : Int) =>
   obind (idxS smB t117) fun t118 =>
   obind (idxS smB t109) fun t120 =>
   obind (idxP 1 t0 t112) fun t121 =>
   obind (stRow h_7 1 [.int .u8 t118] t121) fun h_66 =>
   obind (idxP 1 t0 t115) fun t122 =>
   obind (stRow h_66 1 [.int .u8 t120] t122) fun h_69 =>
   lett (IntKind.i64.wrap (t4 - 3)) fun (t125 : Int) =>
   lett (IntKind.i64.wrap (t4 - 4)) fun (t128 : Int) =>
   lett (IntKind.u32.wrap (t106 + 1)) fun (t130 : Int) =>
   obind (idxS smB t130) fun t131 =>
   obind (idxS smB t106) fun t133 =>
   obind (idxP 1 t0 t125) fun t134 =>
   obind (stRow h_69 1 [.int .u8 t131] t134) fun h_78 =>
   obind (idxP 1 t0 t128) fun t135 =>
   obind (stRow h_78 1 [.int .u8 t133] t135) fun h_81 =>
   lett (IntKind.i64.wrap (t4 - 4)) fun (t137 : Int) =>
   k13 t137 t103 h_81)
  (
   k13 t4 t97 h_7)) fun k5 =>
 internal_strconv_formatBase10_L0 t0 k5 n t1 t18 h
theorem internal_strconv_formatBase10_ok {call : CallF} (hc : SaysAll Pg call) {n : Nat} {t0 : AV} {t1 : Int} {h : AHeap} {rR : ARes} {hR : AHeap} (z : internal_strconv_formatBase10 call n t0 t1 h = some (rR, hR)) : Says Pg 43 [t0, .int .u64 t1] h rR hR := by
 unfold internal_strconv_formatBase10 at z
 refine says_of (fn := Tryd.f43) Tryd.func43 (c := codeOf Tryd.f43) (by kernel_rfl) (by kernel_rfl) (fun w0 m0 => ?_)
 refine W.weaken (l' := [(0, t0), (1, .int .u64 t1)]) (Fr.c (Fr.c Fr.n)) ?_
 refine W.s (fun _ n1 _ _ _ => ?_)
 refine W.r ?_
 refine WL.a (some 17) t0 h ?_
 replace z := oS z; obtain ⟨t18, e2, z⟩ := z
 refine WL.b (some 18) (.int .i64 t18) h (len_row (P := Pg) (h := h) (t := 50) (e' := 5) (by kernel_rfl) e2) ?_
 refine WL.a (some 4) (.int .i64 t18) h ?_
 refine WL.n ?_
 refine Go.weaken (l' := [(0, t0), (1, .int .u64 t1), (4, .int .i64 t18)]) (Fr.c (Fr.c (Fr.c Fr.n))) ?_
 refine n1 ?_
 refine W.s (fun K3 n3 _ _ _ => ?_)
 replace z := lS z; obtain ⟨k5, e5, z⟩ := z
 have J5 : ∀ (t1_6 : Int) (t4 : Int) (h_7 : AHeap), k5 t1_6 t4 h_7 = some (rR, hR) → Go w0 m0 (Func.ntmps Tryd.f43) (K3 .normal) [(0, t0), (1, .int .u64 t1_6), (4, .int .i64 t4)] [] h_7 := by
  intro t1_6 t4 h_7 z
  rw [e5] at z
  refine n3 ?_
  refine W.s (fun _ n8 _ _ _ => ?_)
  refine W.r ?_
  refine WL.a (some 96) (.int .u64 t1_6) h_7 ?_
  replace z := lS z; obtain ⟨t97, e9, z⟩ := z
  refine WL.val (d := (some 97)) (v := .int .u32 t97) (h' := h_7) (by kernel_rfl) (by kernel_rfl) (val_of (AV.int .u32) e9 (by kernel_rfl)) ?_
  refine WL.a (some 12) (.int .u32 t97) h_7 ?_
  refine WL.n ?_
  refine Go.weaken (l' := [(0, t0), (4, .int .i64 t4), (12, .int .u32 t97)]) (Fr.c (Fr.c (Fr.c Fr.n))) ?_
  refine n8 ?_
  refine W.s (fun K10 n10 _ _ _ => ?_)
  refine W.s (fun _ n11 _ _ _ => ?_)
  refine W.r ?_
  refine WL.a (some 98) (.int .i64 t4) h_7 ?_
  replace z := lS z; obtain ⟨t99, e12, z⟩ := z
  refine WL.val (d := (some 99)) (v := .bool t99) (h' := h_7) (by kernel_rfl) (by kernel_rfl) (val_of AV.bool e12 (by kernel_rfl)) ?_
  refine WL.n ?_
  refine Go.weaken (l' := [(0, t0), (4, .int .i64 t4), (12, .int .u32 t97), (99, .bool t99)]) (Fr.c (Fr.c (Fr.c (Fr.c Fr.n)))) ?_
  refine n11 ?_
  replace z := lS z; obtain ⟨k13, e13, z⟩ := z
  have J13 : ∀ (t4_14 : Int) (t12 : Int) (h_15 : AHeap), k13 t4_14 t12 h_15 = some (rR, hR) → Go w0 m0 (Func.ntmps Tryd.f43) (K10 .normal) [(0, t0), (4, .int .i64 t4_14), (12, .int .u32 t12)] [] h_15 := by
   intro t4_14 t12 h_15 z
   rw [e13] at z
   refine n10 ?_
   refine W.s (fun K16 n16 _ _ _ => ?_)
   refine W.s (fun _ n17 _ _ _ => ?_)
   refine W.r ?_
   refine WL.a (some 138) (.int .i64 t4_14) h_15 ?_
   replace z := lS z; obtain ⟨t139, e18, z⟩ := z
   refine WL.val (d := (some 139)) (v := .bool t139) (h' := h_15) (by kernel_rfl) (by kernel_rfl) (val_of AV.bool e18 (by kernel_rfl)) ?_
   refine WL.n ?_
   refine Go.weaken (l' := [(0, t0), (4, .int .i64 t4_14), (12, .int .u32 t12), (139, .bool t139)]) (Fr.c (Fr.c (Fr.c (Fr.c Fr.n)))) ?_
   refine n17 ?_
   replace z := lS z; obtain ⟨k19, e19, z⟩ := z
   have J19 : ∀ (t4_20 : Int) (t12_21 : Int) (h_22 : AHeap), k19 t4_20 t12_21 h_22 = some (rR, hR) → Go w0 m0 (Func.ntmps Tryd.f43) (K16 .normal) [(0, t0), (4, .int .i64 t4_20), (12, .int .u32 t12_21)] [] h_22 := by
    intro t4_20 t12_21 h_22 z
    rw [e19] at z
    refine n16 ?_
    refine W.s (fun _ n23 _ _ _ => ?_)
    refine W.r ?_
    refine WL.a (some 160) (.int .i64 t4_20) h_22 ?_
    replace z := lS z; obtain ⟨t161, e24, z⟩ := z
    refine WL.val (d := (some 161)) (v := .bool t161) (h' := h_22) (by kernel_rfl) (by kernel_rfl) (val_of AV.bool e24 (by kernel_rfl)) ?_
    refine WL.n ?_
    refine Go.weaken (l' := [(0, t0), (12, .int .u32 t12_21), (161, .bool t161)]) (Fr.c (Fr.c (Fr.c Fr.n))) ?_
    refine n23 ?_
    replace z := lS z; obtain ⟨k25, e25, z⟩ := z
    have J25 : ∀  (h_26 : AHeap), k25 h_26 = some (rR, hR) → Go w0 m0 (Func.ntmps Tryd.f43) (Fin Pg Tryd.f43 w0 m0 rR hR .normal) [] [] h_26 := by
     intro  h_26 z
     rw [e25] at z
     obtain ⟨z, hF2⟩ := ret_inj z; subst z; subst hF2
     exact leaveN_of (rs := []) (vs := []) (by kernel_rfl) res_nil (by kernel_rfl)
    cases t161 with
    | true =>
     replace z := ifB_t z
     refine W.t ?_
     refine W.r ?_
     refine WL.a (some 162) t0 h_22 ?_
     refine WL.a (some 163) (.int .u32 t12_21) h_22 ?_
     replace z := lS z; obtain ⟨t164, e27, z⟩ := z
     refine WL.val (d := (some 164)) (v := .int .u32 t164) (h' := h_22) (by kernel_rfl) (by kernel_rfl) (val_of (AV.int .u32) e27 (by kernel_rfl)) ?_
     replace z := lS z; obtain ⟨t165, e28, z⟩ := z
     refine WL.val (d := (some 165)) (v := .int .u8 t165) (h' := h_22) (by kernel_rfl) (by kernel_rfl) (val_of (AV.int .u8) e28 (by kernel_rfl)) ?_
     replace z := oS z; obtain ⟨t166, e29, z⟩ := z
     refine WL.b (some 166) t166 h_22 (index_row (P := Pg) (h := h_22) (t := 50) (e' := 5) (k := .i64) (by kernel_rfl) (by kernel_rfl) (by kernel_rfl) e29) ?_
     replace z := oS z; obtain ⟨h_30, e31, z⟩ := z
     refine WL.e h_30 (store_row (P := Pg) (h := h_22) (t := 5) (v := (.int .u8 t165)) (by kernel_rfl) (by kernel_rfl) e31) ?_
     refine WL.n ?_
     refine Go.weaken (l' := []) Fr.n ?_
     exact Go.weaken Fr.n (J25 _ z)
    | false =>
     replace z := ifB_f z
     refine W.f ?_
     refine W.skip (by kernel_rfl) ?_
     exact Go.weaken Fr.n (J25 _ z)
   cases t139 with
   | true =>
    replace z := ifB_t z
    refine W.t ?_
    refine W.s (fun _ n32 _ _ _ => ?_)
    refine W.r ?_
    refine WL.a (some 140) (.int .u32 t12) h_15 ?_
    replace z := oS z; obtain ⟨t141, e33, z⟩ := z
    refine WL.b (some 141) (.int .u32 t141) h_15 (rem_int (P := Pg) (h := h_15) (t := 81) (lit := true) e33) ?_
    replace z := lS z; obtain ⟨t142, e34, z⟩ := z
    refine WL.val (d := (some 142)) (v := .int .u32 t142) (h' := h_15) (by kernel_rfl) (by kernel_rfl) (val_of (AV.int .u32) e34 (by kernel_rfl)) ?_
    refine WL.a (some 16) (.int .u32 t142) h_15 ?_
    refine WL.n ?_
    refine Go.weaken (l' := [(0, t0), (4, .int .i64 t4_14), (12, .int .u32 t12), (16, .int .u32 t142)]) (Fr.c (Fr.c (Fr.c (Fr.c Fr.n)))) ?_
    refine n32 ?_
    refine W.s (fun _ n35 _ _ _ => ?_)
    refine W.r ?_
    refine WL.a (some 143) (.int .u32 t12) h_15 ?_
    replace z := oS z; obtain ⟨t144, e36, z⟩ := z
    refine WL.b (some 144) (.int .u32 t144) h_15 (quo_int (P := Pg) (h := h_15) (t := 81) (lit := true) e36) ?_
    refine WL.a (some 12) (.int .u32 t144) h_15 ?_
    refine WL.n ?_
    refine Go.weaken (l' := [(0, t0), (4, .int .i64 t4_14), (12, .int .u32 t144), (16, .int .u32 t142)]) (Fr.c (Fr.c (Fr.c (Fr.c Fr.n)))) ?_
    refine n35 ?_
    refine W.s (fun _ n37 _ _ _ => ?_)
    refine W.draw (by kernel_rfl) (hc.ok w0) (plan := [0, 1, 2, 3, 4, 5, 6, 7, 8, 9, 10, 11, 12, 13, 14]) (by kernel_rfl) (by kernel_rfl) (by kernel_rfl) ?_
    refine WD.a 0 (some 145) t0 h_15 ?_
    refine WD.a 0 (some 146) (.int .i64 t4_14) h_15 ?_
    replace z := lS z; obtain ⟨t147, e38, z⟩ := z
    refine WD.val (d := (some 147)) (v := .int .i64 t147) (h' := h_15) (by kernel_rfl) (by kernel_rfl) (val_of (AV.int .i64) e38 (by kernel_rfl)) (k := 0) (by kernel_rfl) (fun e => absurd e (by decide)) (by decide) ?_
    refine WD.a 0 (some 148) t0 h_15 ?_
    refine WD.a 0 (some 149) (.int .i64 t4_14) h_15 ?_
    replace z := lS z; obtain ⟨t150, e39, z⟩ := z
    refine WD.val (d := (some 150)) (v := .int .i64 t150) (h' := h_15) (by kernel_rfl) (by kernel_rfl) (val_of (AV.int .i64) e39 (by kernel_rfl)) (k := 0) (by kernel_rfl) (fun e => absurd e (by decide)) (by decide) ?_
    refine WD.a 0 (some 151) (.int .u32 t142) h_15 ?_
    replace z := lS z; obtain ⟨t152, e40, z⟩ := z
    refine WD.val (d := (some 152)) (v := .int .u32 t152) (h' := h_15) (by kernel_rfl) (by kernel_rfl) (val_of (AV.int .u32) e40 (by kernel_rfl)) (k := 0) (by kernel_rfl) (fun e => absurd e (by decide)) (by decide) ?_
    replace z := oS z; obtain ⟨t153, e41, z⟩ := z
    refine WD.b 0 (some 153) (.int .u8 t153) h_15 (index_str (P := Pg) (h := h_15) (t := 9) (k := .u32) (by kernel_rfl) e41) ?_
    refine WD.a 0 (some 154) (.int .u32 t142) h_15 ?_
    replace z := oS z; obtain ⟨t155, e42, z⟩ := z
    refine WD.b 0 (some 155) (.int .u8 t155) h_15 (index_str (P := Pg) (h := h_15) (t := 9) (k := .u32) (by kernel_rfl) e42) ?_
    replace z := oS z; obtain ⟨t156, e43, z⟩ := z
    refine WD.b 0 (some 156) t156 h_15 (index_row (P := Pg) (h := h_15) (t := 50) (e' := 5) (k := .i64) (by kernel_rfl) (by kernel_rfl) (by kernel_rfl) e43) ?_
    replace z := oS z; obtain ⟨h_44, e45, z⟩ := z
    refine WD.eff (h' := h_44) (by kernel_rfl) (by kernel_rfl) (Eq.trans (by kernel_rfl) (store_row (P := Pg) (h := h_15) (t := 5) (v := (.int .u8 t153)) (by kernel_rfl) (by kernel_rfl) e45)) (k := 2) (by kernel_rfl) (fun _ => (by kernel_rfl)) (by decide) ?_
    replace z := oS z; obtain ⟨t157, e46, z⟩ := z
    refine WD.b 0 (some 157) t157 h_44 (index_row (P := Pg) (h := h_44) (t := 50) (e' := 5) (k := .i64) (by kernel_rfl) (by kernel_rfl) (by kernel_rfl) e46) ?_
    replace z := oS z; obtain ⟨h_47, e48, z⟩ := z
    refine WD.eff (h' := h_47) (by kernel_rfl) (by kernel_rfl) (Eq.trans (by kernel_rfl) (store_row (P := Pg) (h := h_44) (t := 5) (v := (.int .u8 t155)) (by kernel_rfl) (by kernel_rfl) e48)) (k := 2) (by kernel_rfl) (fun _ => (by kernel_rfl)) (by decide) ?_
    refine WD.nil ?_
    refine Go.weaken (l' := [(0, t0), (4, .int .i64 t4_14), (12, .int .u32 t144)]) (Fr.c (Fr.c (Fr.c Fr.n))) ?_
    refine n37 ?_
    refine W.r ?_
    refine WL.a (some 158) (.int .i64 t4_14) h_47 ?_
    replace z := lS z; obtain ⟨t159, e49, z⟩ := z
    refine WL.val (d := (some 159)) (v := .int .i64 t159) (h' := h_47) (by kernel_rfl) (by kernel_rfl) (val_of (AV.int .i64) e49 (by kernel_rfl)) ?_
    refine WL.a (some 4) (.int .i64 t159) h_47 ?_
    refine WL.n ?_
    refine Go.weaken (l' := [(0, t0), (4, .int .i64 t159), (12, .int .u32 t144)]) (Fr.c (Fr.c (Fr.c Fr.n))) ?_
    exact Go.weaken (Fr.c (Fr.c (Fr.c Fr.n))) (J19 _ _ _ z)
   | false =>
    replace z := ifB_f z
    refine W.f ?_
    refine W.skip (by kernel_rfl) ?_
    exact Go.weaken (Fr.c (Fr.c (Fr.c Fr.n))) (J19 _ _ _ z)
  cases t99 with
  | true =>
   replace z := ifB_t z
   refine W.t ?_
   refine W.s (fun _ n50 _ _ _ => ?_)
   refine W.r ?_
   refine WL.a (some 100) (.int .u32 t97) h_7 ?_
   replace z := oS z; obtain ⟨t101, e51, z⟩ := z
   refine WL.b (some 101) (.int .u32 t101) h_7 (rem_int (P := Pg) (h := h_7) (t := 81) (lit := true) e51) ?_
   refine WL.a (some 13) (.int .u32 t101) h_7 ?_
   refine WL.n ?_
   refine Go.weaken (l' := [(0, t0), (4, .int .i64 t4), (12, .int .u32 t97), (13, .int .u32 t101)]) (Fr.c (Fr.c (Fr.c (Fr.c Fr.n)))) ?_
   refine n50 ?_
   refine W.s (fun _ n52 _ _ _ => ?_)
   refine W.r ?_
   refine WL.a (some 102) (.int .u32 t97) h_7 ?_
   replace z := oS z; obtain ⟨t103, e53, z⟩ := z
   refine WL.b (some 103) (.int .u32 t103) h_7 (quo_int (P := Pg) (h := h_7) (t := 81) (lit := true) e53) ?_
   refine WL.a (some 12) (.int .u32 t103) h_7 ?_
   refine WL.n ?_
   refine Go.weaken (l' := [(0, t0), (4, .int .i64 t4), (12, .int .u32 t103), (13, .int .u32 t101)]) (Fr.c (Fr.c (Fr.c (Fr.c Fr.n)))) ?_
   refine n52 ?_
   refine W.s (fun _ n54 _ _ _ => ?_)
   refine W.r ?_
   refine WL.a (some 104) (.int .u32 t101) h_7 ?_
   replace z := oS z; obtain ⟨t105, e55, z⟩ := z
   refine WL.b (some 105) (.int .u32 t105) h_7 (quo_int (P := Pg) (h := h_7) (t := 81) (lit := true) e55) ?_
   replace z := lS z; obtain ⟨t106, e56, z⟩ := z
   refine WL.val (d := (some 106)) (v := .int .u32 t106) (h' := h_7) (by kernel_rfl) (by kernel_rfl) (val_of (AV.int .u32) e56 (by kernel_rfl)) ?_
   refine WL.a (some 107) (.int .u32 t101) h_7 ?_
   replace z := oS z; obtain ⟨t108, e57, z⟩ := z
   refine WL.b (some 108) (.int .u32 t108) h_7 (rem_int (P := Pg) (h := h_7) (t := 81) (lit := true) e57) ?_
   replace z := lS z; obtain ⟨t109, e58, z⟩ := z
   refine WL.val (d := (some 109)) (v := .int .u32 t109) (h' := h_7) (by kernel_rfl) (by kernel_rfl) (val_of (AV.int .u32) e58 (by kernel_rfl)) ?_
   refine WL.a (some 14) (.int .u32 t106) h_7 ?_
   refine WL.a (some 15) (.int .u32 t109) h_7 ?_
   refine WL.n ?_
   refine Go.weaken (l' := [(0, t0), (4, .int .i64 t4), (12, .int .u32 t103), (14, .int .u32 t106), (15, .int .u32 t109)]) (Fr.c (Fr.c (Fr.c (Fr.c (Fr.c Fr.n))))) ?_
   refine n54 ?_
   refine W.s (fun _ n59 _ _ _ => ?_)
   refine W.draw (by kernel_rfl) (hc.ok w0) (plan := [0, 1, 2, 3, 4, 5, 6, 7, 8, 9, 10, 11, 12, 13, 14]) (by kernel_rfl) (by kernel_rfl) (by kernel_rfl) ?_
   refine WD.a 0 (some 110) t0 h_7 ?_
   refine WD.a 0 (some 111) (.int .i64 t4) h_7 ?_
   replace z := lS z; obtain ⟨t112, e60, z⟩ := z
   refine WD.val (d := (some 112)) (v := .int .i64 t112) (h' := h_7) (by kernel_rfl) (by kernel_rfl) (val_of (AV.int .i64) e60 (by kernel_rfl)) (k := 0) (by kernel_rfl) (fun e => absurd e (by decide)) (by decide) ?_
   refine WD.a 0 (some 113) t0 h_7 ?_
   refine WD.a 0 (some 114) (.int .i64 t4) h_7 ?_
   replace z := lS z; obtain ⟨t115, e61, z⟩ := z
   refine WD.val (d := (some 115)) (v := .int .i64 t115) (h' := h_7) (by kernel_rfl) (by kernel_rfl) (val_of (AV.int .i64) e61 (by kernel_rfl)) (k := 0) (by kernel_rfl) (fun e => absurd e (by decide)) (by decide) ?_
   refine WD.a 0 (some 116) (.int .u32 t109) h_7 ?_
   replace z := lS z; obtain ⟨t117, e62, z⟩ := z
   refine WD.val (d := (some 117)) (v := .int .u32 t117) (h' := h_7) (by kernel_rfl) (by kernel_rfl) (val_of (AV.int .u32) e62 (by kernel_rfl)) (k := 0) (by kernel_rfl) (fun e => absurd e (by decide)) (by decide) ?_
   replace z := oS z; obtain ⟨t118, e63, z⟩ := z
   refine WD.b 0 (some 118) (.int .u8 t118) h_7 (index_str (P := Pg) (h := h_7) (t := 9) (k := .u32) (by kernel_rfl) e63) ?_
   refine WD.a 0 (some 119) (.int .u32 t109) h_7 ?_
   replace z := oS z; obtain ⟨t120, e64, z⟩ := z
   refine WD.b 0 (some 120) (.int .u8 t120) h_7 (index_str (P := Pg) (h := h_7) (t := 9) (k := .u32) (by kernel_rfl) e64) ?_
   replace z := oS z; obtain ⟨t121, e65, z⟩ := z
   refine WD.b 0 (some 121) t121 h_7 (index_row (P := Pg) (h := h_7) (t := 50) (e' := 5) (k := .i64) (by kernel_rfl) (by kernel_rfl) (by kernel_rfl) e65) ?_
   replace z := oS z; obtain ⟨h_66, e67, z⟩ := z
   refine WD.eff (h' := h_66) (by kernel_rfl) (by kernel_rfl) (Eq.trans (by kernel_rfl) (store_row (P := Pg) (h := h_7) (t := 5) (v := (.int .u8 t118)) (by kernel_rfl) (by kernel_rfl) e67)) (k := 2) (by kernel_rfl) (fun _ => (by kernel_rfl)) (by decide) ?_
   replace z := oS z; obtain ⟨t122, e68, z⟩ := z
   refine WD.b 0 (some 122) t122 h_66 (index_row (P := Pg) (h := h_66) (t := 50) (e' := 5) (k := .i64) (by kernel_rfl) (by kernel_rfl) (by kernel_rfl) e68) ?_
   replace z := oS z; obtain ⟨h_69, e70, z⟩ := z
   refine WD.eff (h' := h_69) (by kernel_rfl) (by kernel_rfl) (Eq.trans (by kernel_rfl) (store_row (P := Pg) (h := h_66) (t := 5) (v := (.int .u8 t120)) (by kernel_rfl) (by kernel_rfl) e70)) (k := 2) (by kernel_rfl) (fun _ => (by kernel_rfl)) (by decide) ?_
   refine WD.nil ?_
   refine Go.weaken (l' := [(0, t0), (4, .int .i64 t4), (12, .int .u32 t103), (14, .int .u32 t106)]) (Fr.c (Fr.c (Fr.c (Fr.c Fr.n)))) ?_
   refine n59 ?_
   refine W.s (fun _ n71 _ _ _ => ?_)
   refine W.draw (by kernel_rfl) (hc.ok w0) (plan := [0, 1, 2, 3, 4, 5, 6, 7, 8, 9, 10, 11, 12, 13, 14]) (by kernel_rfl) (by kernel_rfl) (by kernel_rfl) ?_
   refine WD.a 0 (some 123) t0 h_69 ?_
   refine WD.a 0 (some 124) (.int .i64 t4) h_69 ?_
   replace z := lS z; obtain ⟨t125, e72, z⟩ := z
   refine WD.val (d := (some 125)) (v := .int .i64 t125) (h' := h_69) (by kernel_rfl) (by kernel_rfl) (val_of (AV.int .i64) e72 (by kernel_rfl)) (k := 0) (by kernel_rfl) (fun e => absurd e (by decide)) (by decide) ?_
   refine WD.a 0 (some 126) t0 h_69 ?_
   refine WD.a 0 (some 127) (.int .i64 t4) h_69 ?_
   replace z := lS z; obtain ⟨t128, e73, z⟩ := z
   refine WD.val (d := (some 128)) (v := .int .i64 t128) (h' := h_69) (by kernel_rfl) (by kernel_rfl) (val_of (AV.int .i64) e73 (by kernel_rfl)) (k := 0) (by kernel_rfl) (fun e => absurd e (by decide)) (by decide) ?_
   refine WD.a 0 (some 129) (.int .u32 t106) h_69 ?_
   replace z := lS z; obtain ⟨t130, e74, z⟩ := z
   refine WD.val (d := (some 130)) (v := .int .u32 t130) (h' := h_69) (by kernel_rfl) (by kernel_rfl) (val_of (AV.int .u32) e74 (by kernel_rfl)) (k := 0) (by kernel_rfl) (fun e => absurd e (by decide)) (by decide) ?_
   replace z := oS z; obtain ⟨t131, e75, z⟩ := z
   refine WD.b 0 (some 131) (.int .u8 t131) h_69 (index_str (P := Pg) (h := h_69) (t := 9) (k := .u32) (by kernel_rfl) e75) ?_
   refine WD.a 0 (some 132) (.int .u32 t106) h_69 ?_
   replace z := oS z; obtain ⟨t133, e76, z⟩ := z
   refine WD.b 0 (some 133) (.int .u8 t133) h_69 (index_str (P := Pg) (h := h_69) (t := 9) (k := .u32) (by kernel_rfl) e76) ?_
   replace z := oS z; obtain ⟨t134, e77, z⟩ := z
   refine WD.b 0 (some 134) t134 h_69 (index_row (P := Pg) (h := h_69) (t := 50) (e' := 5) (k := .i64) (by kernel_rfl) (by kernel_rfl) (by kernel_rfl) e77) ?_
   replace z := oS z; obtain ⟨h_78, e79, z⟩ := z
   refine WD.eff (h' := h_78) (by kernel_rfl) (by kernel_rfl) (Eq.trans (by kernel_rfl) (store_row (P := Pg) (h := h_69) (t := 5) (v := (.int .u8 t131)) (by kernel_rfl) (by kernel_rfl) e79)) (k := 2) (by kernel_rfl) (fun _ => (by kernel_rfl)) (by decide) ?_
   replace z := oS z; obtain ⟨t135, e80, z⟩ := z
   refine WD.b 0 (some 135) t135 h_78 (index_row (P := Pg) (h := h_78) (t := 50) (e' := 5) (k := .i64) (by kernel_rfl) (by kernel_rfl) (by kernel_rfl) e80) ?_
   replace z := oS z; obtain ⟨h_81, e82, z⟩ := z
   refine WD.eff (h' := h_81) (by kernel_rfl) (by kernel_rfl) (Eq.trans (by kernel_rfl) (store_row (P := Pg) (h := h_78) (t := 5) (v := (.int .u8 t133)) (by kernel_rfl) (by kernel_rfl) e82)) (k := 2) (by kernel_rfl) (fun _ => (by kernel_rfl)) (by decide) ?_
   refine WD.nil ?_
   refine Go.weaken (l' := [(0, t0), (4, .int .i64 t4), (12, .int .u32 t103)]) (Fr.c (Fr.c (Fr.c Fr.n))) ?_
   refine n71 ?_
   refine W.r ?_
   refine WL.a (some 136) (.int .i64 t4) h_81 ?_
   replace z := lS z; obtain ⟨t137, e83, z⟩ := z
   refine WL.val (d := (some 137)) (v := .int .i64 t137) (h' := h_81) (by kernel_rfl) (by kernel_rfl) (val_of (AV.int .i64) e83 (by kernel_rfl)) ?_
   refine WL.a (some 4) (.int .i64 t137) h_81 ?_
   refine WL.n ?_
   refine Go.weaken (l' := [(0, t0), (4, .int .i64 t137), (12, .int .u32 t103)]) (Fr.c (Fr.c (Fr.c Fr.n))) ?_
   exact Go.weaken (Fr.c (Fr.c (Fr.c Fr.n))) (J13 _ _ _ z)
  | false =>
   replace z := ifB_f z
   refine W.f ?_
   refine W.skip (by kernel_rfl) ?_
   exact Go.weaken (Fr.c (Fr.c (Fr.c Fr.n))) (J13 _ _ _ z)
 refine W.blockK (by kernel_rfl) (fun K4 n4 s4 o4 q4 p4 => ?_)
 refine W.loopK (by kernel_rfl) (fun I84 K84 b84 n84 e84 q84 p84 => ?_)
 have L84 : ∀ (m : Nat) (t1_85 : Int) (t4_86 : Int) (h_87 : AHeap), internal_strconv_formatBase10_L0 t0 k5 m t1_85 t4_86 h_87 = some (rR, hR) → Go w0 m0 (Func.ntmps Tryd.f43) I84 [(0, t0), (1, .int .u64 t1_85), (4, .int .i64 t4_86)] [] h_87 := by
  intro m
  induction m with
  | zero => intro t1_85 t4_86 h_87 z; cases z
  | succ m ih84 =>
   intro t1_85 t4_86 h_87 z
   rw [internal_strconv_formatBase10_L0_s] at z; unfold internal_strconv_formatBase10_L0b at z
   refine b84 ?_
   refine W.s (fun _ n88 e88 _ _ => ?_)
   refine W.s (fun _ n89 _ _ _ => ?_)
   refine W.r ?_
   refine WL.a (some 19) (.int .i64 t4_86) h_87 ?_
   replace z := lS z; obtain ⟨t20, e90, z⟩ := z
   refine WL.val (d := (some 20)) (v := .bool t20) (h' := h_87) (by kernel_rfl) (by kernel_rfl) (val_of AV.bool e90 (by kernel_rfl)) ?_
   refine WL.n ?_
   refine Go.weaken (l' := [(0, t0), (1, .int .u64 t1_85), (4, .int .i64 t4_86), (20, .bool t20)]) (Fr.c (Fr.c (Fr.c (Fr.c Fr.n)))) ?_
   refine n89 ?_
   cases t20 with
   | true =>
    replace z := ifB_t z
    refine W.t ?_
    refine W.skip (by kernel_rfl) ?_
    refine n88 ?_
    refine W.blockK (by kernel_rfl) (fun K91 n91 s91 o91 q91 p91 => ?_)
    refine W.s (fun _ n92 _ _ _ => ?_)
    refine W.r ?_
    refine WL.a (some 21) (.int .u64 t1_85) h_87 ?_
    replace z := oS z; obtain ⟨t22, e93, z⟩ := z
    refine WL.b (some 22) (.int .u64 t22) h_87 (rem_int (P := Pg) (h := h_87) (t := 69) (lit := true) e93) ?_
    replace z := lS z; obtain ⟨t23, e94, z⟩ := z
    refine WL.val (d := (some 23)) (v := .int .u32 t23) (h' := h_87) (by kernel_rfl) (by kernel_rfl) (val_of (AV.int .u32) e94 (by kernel_rfl)) ?_
    refine WL.a (some 5) (.int .u32 t23) h_87 ?_
    refine WL.n ?_
    refine Go.weaken (l' := [(0, t0), (1, .int .u64 t1_85), (4, .int .i64 t4_86), (5, .int .u32 t23)]) (Fr.c (Fr.c (Fr.c (Fr.c Fr.n)))) ?_
    refine n92 ?_
    refine W.s (fun _ n95 _ _ _ => ?_)
    refine W.r ?_
    refine WL.a (some 24) (.int .u64 t1_85) h_87 ?_
    replace z := oS z; obtain ⟨t25, e96, z⟩ := z
    refine WL.b (some 25) (.int .u64 t25) h_87 (quo_int (P := Pg) (h := h_87) (t := 69) (lit := true) e96) ?_
    refine WL.a (some 1) (.int .u64 t25) h_87 ?_
    refine WL.n ?_
    refine Go.weaken (l' := [(0, t0), (1, .int .u64 t25), (4, .int .i64 t4_86), (5, .int .u32 t23)]) (Fr.c (Fr.c (Fr.c (Fr.c Fr.n)))) ?_
    refine n95 ?_
    refine W.s (fun _ n97 _ _ _ => ?_)
    refine W.r ?_
    refine WL.a (some 26) (.int .u32 t23) h_87 ?_
    replace z := oS z; obtain ⟨t27, e98, z⟩ := z
    refine WL.b (some 27) (.int .u32 t27) h_87 (quo_int (P := Pg) (h := h_87) (t := 81) (lit := true) e98) ?_
    refine WL.a (some 28) (.int .u32 t23) h_87 ?_
    replace z := oS z; obtain ⟨t29, e99, z⟩ := z
    refine WL.b (some 29) (.int .u32 t29) h_87 (rem_int (P := Pg) (h := h_87) (t := 81) (lit := true) e99) ?_
    refine WL.a (some 6) (.int .u32 t27) h_87 ?_
    refine WL.a (some 7) (.int .u32 t29) h_87 ?_
    refine WL.n ?_
    refine Go.weaken (l' := [(0, t0), (1, .int .u64 t25), (4, .int .i64 t4_86), (6, .int .u32 t27), (7, .int .u32 t29)]) (Fr.c (Fr.c (Fr.c (Fr.c (Fr.c Fr.n))))) ?_
    refine n97 ?_
    refine W.s (fun _ n100 _ _ _ => ?_)
    refine W.r ?_
    refine WL.a (some 30) (.int .u32 t29) h_87 ?_
    replace z := oS z; obtain ⟨t31, e101, z⟩ := z
    refine WL.b (some 31) (.int .u32 t31) h_87 (quo_int (P := Pg) (h := h_87) (t := 81) (lit := true) e101) ?_
    replace z := lS z; obtain ⟨t32, e102, z⟩ := z
    refine WL.val (d := (some 32)) (v := .int .u32 t32) (h' := h_87) (by kernel_rfl) (by kernel_rfl) (val_of (AV.int .u32) e102 (by kernel_rfl)) ?_
    refine WL.a (some 33) (.int .u32 t29) h_87 ?_
    replace z := oS z; obtain ⟨t34, e103, z⟩ := z
    refine WL.b (some 34) (.int .u32 t34) h_87 (rem_int (P := Pg) (h := h_87) (t := 81) (lit := true) e103) ?_
    replace z := lS z; obtain ⟨t35, e104, z⟩ := z
    refine WL.val (d := (some 35)) (v := .int .u32 t35) (h' := h_87) (by kernel_rfl) (by kernel_rfl) (val_of (AV.int .u32) e104 (by kernel_rfl)) ?_
    refine WL.a (some 8) (.int .u32 t32) h_87 ?_
    refine WL.a (some 9) (.int .u32 t35) h_87 ?_
    refine WL.n ?_
    refine Go.weaken (l' := [(0, t0), (1, .int .u64 t25), (4, .int .i64 t4_86), (6, .int .u32 t27), (8, .int .u32 t32), (9, .int .u32 t35)]) (Fr.c (Fr.c (Fr.c (Fr.c (Fr.c (Fr.c Fr.n)))))) ?_
    refine n100 ?_
    refine W.s (fun _ n105 _ _ _ => ?_)
    refine W.r ?_
    refine WL.a (some 36) (.int .u32 t27) h_87 ?_
    replace z := oS z; obtain ⟨t37, e106, z⟩ := z
    refine WL.b (some 37) (.int .u32 t37) h_87 (quo_int (P := Pg) (h := h_87) (t := 81) (lit := true) e106) ?_
    replace z := lS z; obtain ⟨t38, e107, z⟩ := z
    refine WL.val (d := (some 38)) (v := .int .u32 t38) (h' := h_87) (by kernel_rfl) (by kernel_rfl) (val_of (AV.int .u32) e107 (by kernel_rfl)) ?_
    refine WL.a (some 39) (.int .u32 t27) h_87 ?_
    replace z := oS z; obtain ⟨t40, e108, z⟩ := z
    refine WL.b (some 40) (.int .u32 t40) h_87 (rem_int (P := Pg) (h := h_87) (t := 81) (lit := true) e108) ?_
    replace z := lS z; obtain ⟨t41, e109, z⟩ := z
    refine WL.val (d := (some 41)) (v := .int .u32 t41) (h' := h_87) (by kernel_rfl) (by kernel_rfl) (val_of (AV.int .u32) e109 (by kernel_rfl)) ?_
    refine WL.a (some 10) (.int .u32 t38) h_87 ?_
    refine WL.a (some 11) (.int .u32 t41) h_87 ?_
    refine WL.n ?_
    refine Go.weaken (l' := [(0, t0), (1, .int .u64 t25), (4, .int .i64 t4_86), (8, .int .u32 t32), (9, .int .u32 t35), (10, .int .u32 t38), (11, .int .u32 t41)]) (Fr.c (Fr.c (Fr.c (Fr.c (Fr.c (Fr.c (Fr.c Fr.n))))))) ?_
    refine n105 ?_
    refine W.s (fun _ n110 _ _ _ => ?_)
    refine W.draw (by kernel_rfl) (hc.ok w0) (plan := [0, 1, 2, 3, 4, 5, 6, 7, 8, 9, 10, 11, 12, 13, 14]) (by kernel_rfl) (by kernel_rfl) (by kernel_rfl) ?_
    refine WD.a 0 (some 42) t0 h_87 ?_
    refine WD.a 0 (some 43) (.int .i64 t4_86) h_87 ?_
    replace z := lS z; obtain ⟨t44, e111, z⟩ := z
    refine WD.val (d := (some 44)) (v := .int .i64 t44) (h' := h_87) (by kernel_rfl) (by kernel_rfl) (val_of (AV.int .i64) e111 (by kernel_rfl)) (k := 0) (by kernel_rfl) (fun e => absurd e (by decide)) (by decide) ?_
    refine WD.a 0 (some 45) t0 h_87 ?_
    refine WD.a 0 (some 46) (.int .i64 t4_86) h_87 ?_
    replace z := lS z; obtain ⟨t47, e112, z⟩ := z
    refine WD.val (d := (some 47)) (v := .int .i64 t47) (h' := h_87) (by kernel_rfl) (by kernel_rfl) (val_of (AV.int .i64) e112 (by kernel_rfl)) (k := 0) (by kernel_rfl) (fun e => absurd e (by decide)) (by decide) ?_
    refine WD.a 0 (some 48) (.int .u32 t35) h_87 ?_
    replace z := lS z; obtain ⟨t49, e113, z⟩ := z
    refine WD.val (d := (some 49)) (v := .int .u32 t49) (h' := h_87) (by kernel_rfl) (by kernel_rfl) (val_of (AV.int .u32) e113 (by kernel_rfl)) (k := 0) (by kernel_rfl) (fun e => absurd e (by decide)) (by decide) ?_
    replace z := oS z; obtain ⟨t50, e114, z⟩ := z
    refine WD.b 0 (some 50) (.int .u8 t50) h_87 (index_str (P := Pg) (h := h_87) (t := 9) (k := .u32) (by kernel_rfl) e114) ?_
    refine WD.a 0 (some 51) (.int .u32 t35) h_87 ?_
    replace z := oS z; obtain ⟨t52, e115, z⟩ := z
    refine WD.b 0 (some 52) (.int .u8 t52) h_87 (index_str (P := Pg) (h := h_87) (t := 9) (k := .u32) (by kernel_rfl) e115) ?_
    replace z := oS z; obtain ⟨t53, e116, z⟩ := z
    refine WD.b 0 (some 53) t53 h_87 (index_row (P := Pg) (h := h_87) (t := 50) (e' := 5) (k := .i64) (by kernel_rfl) (by kernel_rfl) (by kernel_rfl) e116) ?_
    replace z := oS z; obtain ⟨h_117, e118, z⟩ := z
    refine WD.eff (h' := h_117) (by kernel_rfl) (by kernel_rfl) (Eq.trans (by kernel_rfl) (store_row (P := Pg) (h := h_87) (t := 5) (v := (.int .u8 t50)) (by kernel_rfl) (by kernel_rfl) e118)) (k := 2) (by kernel_rfl) (fun _ => (by kernel_rfl)) (by decide) ?_
    replace z := oS z; obtain ⟨t54, e119, z⟩ := z
    refine WD.b 0 (some 54) t54 h_117 (index_row (P := Pg) (h := h_117) (t := 50) (e' := 5) (k := .i64) (by kernel_rfl) (by kernel_rfl) (by kernel_rfl) e119) ?_
    replace z := oS z; obtain ⟨h_120, e121, z⟩ := z
    refine WD.eff (h' := h_120) (by kernel_rfl) (by kernel_rfl) (Eq.trans (by kernel_rfl) (store_row (P := Pg) (h := h_117) (t := 5) (v := (.int .u8 t52)) (by kernel_rfl) (by kernel_rfl) e121)) (k := 2) (by kernel_rfl) (fun _ => (by kernel_rfl)) (by decide) ?_
    refine WD.nil ?_
    refine Go.weaken (l' := [(0, t0), (1, .int .u64 t25), (4, .int .i64 t4_86), (8, .int .u32 t32), (10, .int .u32 t38), (11, .int .u32 t41)]) (Fr.c (Fr.c (Fr.c (Fr.c (Fr.c (Fr.c Fr.n)))))) ?_
    refine n110 ?_
    refine W.s (fun _ n122 _ _ _ => ?_)
    refine W.draw (by kernel_rfl) (hc.ok w0) (plan := [0, 1, 2, 3, 4, 5, 6, 7, 8, 9, 10, 11, 12, 13, 14]) (by kernel_rfl) (by kernel_rfl) (by kernel_rfl) ?_
    refine WD.a 0 (some 55) t0 h_120 ?_
    refine WD.a 0 (some 56) (.int .i64 t4_86) h_120 ?_
    replace z := lS z; obtain ⟨t57, e123, z⟩ := z
    refine WD.val (d := (some 57)) (v := .int .i64 t57) (h' := h_120) (by kernel_rfl) (by kernel_rfl) (val_of (AV.int .i64) e123 (by kernel_rfl)) (k := 0) (by kernel_rfl) (fun e => absurd e (by decide)) (by decide) ?_
    refine WD.a 0 (some 58) t0 h_120 ?_
    refine WD.a 0 (some 59) (.int .i64 t4_86) h_120 ?_
    replace z := lS z; obtain ⟨t60, e124, z⟩ := z
    refine WD.val (d := (some 60)) (v := .int .i64 t60) (h' := h_120) (by kernel_rfl) (by kernel_rfl) (val_of (AV.int .i64) e124 (by kernel_rfl)) (k := 0) (by kernel_rfl) (fun e => absurd e (by decide)) (by decide) ?_
    refine WD.a 0 (some 61) (.int .u32 t32) h_120 ?_
    replace z := lS z; obtain ⟨t62, e125, z⟩ := z
    refine WD.val (d := (some 62)) (v := .int .u32 t62) (h' := h_120) (by kernel_rfl) (by kernel_rfl) (val_of (AV.int .u32) e125 (by kernel_rfl)) (k := 0) (by kernel_rfl) (fun e => absurd e (by decide)) (by decide) ?_
    replace z := oS z; obtain ⟨t63, e126, z⟩ := z
    refine WD.b 0 (some 63) (.int .u8 t63) h_120 (index_str (P := Pg) (h := h_120) (t := 9) (k := .u32) (by kernel_rfl) e126) ?_
    refine WD.a 0 (some 64) (.int .u32 t32) h_120 ?_
    replace z := oS z; obtain ⟨t65, e127, z⟩ := z
    refine WD.b 0 (some 65) (.int .u8 t65) h_120 (index_str (P := Pg) (h := h_120) (t := 9) (k := .u32) (by kernel_rfl) e127) ?_
    replace z := oS z; obtain ⟨t66, e128, z⟩ := z
    refine WD.b 0 (some 66) t66 h_120 (index_row (P := Pg) (h := h_120) (t := 50) (e' := 5) (k := .i64) (by kernel_rfl) (by kernel_rfl) (by kernel_rfl) e128) ?_
    replace z := oS z; obtain ⟨h_129, e130, z⟩ := z
    refine WD.eff (h' := h_129) (by kernel_rfl) (by kernel_rfl) (Eq.trans (by kernel_rfl) (store_row (P := Pg) (h := h_120) (t := 5) (v := (.int .u8 t63)) (by kernel_rfl) (by kernel_rfl) e130)) (k := 2) (by kernel_rfl) (fun _ => (by kernel_rfl)) (by decide) ?_
    replace z := oS z; obtain ⟨t67, e131, z⟩ := z
    refine WD.b 0 (some 67) t67 h_129 (index_row (P := Pg) (h := h_129) (t := 50) (e' := 5) (k := .i64) (by kernel_rfl) (by kernel_rfl) (by kernel_rfl) e131) ?_
    replace z := oS z; obtain ⟨h_132, e133, z⟩ := z
    refine WD.eff (h' := h_132) (by kernel_rfl) (by kernel_rfl) (Eq.trans (by kernel_rfl) (store_row (P := Pg) (h := h_129) (t := 5) (v := (.int .u8 t65)) (by kernel_rfl) (by kernel_rfl) e133)) (k := 2) (by kernel_rfl) (fun _ => (by kernel_rfl)) (by decide) ?_
    refine WD.nil ?_
    refine Go.weaken (l' := [(0, t0), (1, .int .u64 t25), (4, .int .i64 t4_86), (10, .int .u32 t38), (11, .int .u32 t41)]) (Fr.c (Fr.c (Fr.c (Fr.c (Fr.c Fr.n))))) ?_
    refine n122 ?_
    refine W.s (fun _ n134 _ _ _ => ?_)
    refine W.draw (by kernel_rfl) (hc.ok w0) (plan := [0, 1, 2, 3, 4, 5, 6, 7, 8, 9, 10, 11, 12, 13, 14]) (by kernel_rfl) (by kernel_rfl) (by kernel_rfl) ?_
    refine WD.a 0 (some 68) t0 h_132 ?_
    refine WD.a 0 (some 69) (.int .i64 t4_86) h_132 ?_
    replace z := lS z; obtain ⟨t70, e135, z⟩ := z
    refine WD.val (d := (some 70)) (v := .int .i64 t70) (h' := h_132) (by kernel_rfl) (by kernel_rfl) (val_of (AV.int .i64) e135 (by kernel_rfl)) (k := 0) (by kernel_rfl) (fun e => absurd e (by decide)) (by decide) ?_
    refine WD.a 0 (some 71) t0 h_132 ?_
    refine WD.a 0 (some 72) (.int .i64 t4_86) h_132 ?_
    replace z := lS z; obtain ⟨t73, e136, z⟩ := z
    refine WD.val (d := (some 73)) (v := .int .i64 t73) (h' := h_132) (by kernel_rfl) (by kernel_rfl) (val_of (AV.int .i64) e136 (by kernel_rfl)) (k := 0) (by kernel_rfl) (fun e => absurd e (by decide)) (by decide) ?_
    refine WD.a 0 (some 74) (.int .u32 t41) h_132 ?_
    replace z := lS z; obtain ⟨t75, e137, z⟩ := z
    refine WD.val (d := (some 75)) (v := .int .u32 t75) (h' := h_132) (by kernel_rfl) (by kernel_rfl) (val_of (AV.int .u32) e137 (by kernel_rfl)) (k := 0) (by kernel_rfl) (fun e => absurd e (by decide)) (by decide) ?_
    replace z := oS z; obtain ⟨t76, e138, z⟩ := z
    refine WD.b 0 (some 76) (.int .u8 t76) h_132 (index_str (P := Pg) (h := h_132) (t := 9) (k := .u32) (by kernel_rfl) e138) ?_
    refine WD.a 0 (some 77) (.int .u32 t41) h_132 ?_
    replace z := oS z; obtain ⟨t78, e139, z⟩ := z
    refine WD.b 0 (some 78) (.int .u8 t78) h_132 (index_str (P := Pg) (h := h_132) (t := 9) (k := .u32) (by kernel_rfl) e139) ?_
    replace z := oS z; obtain ⟨t79, e140, z⟩ := z
    refine WD.b 0 (some 79) t79 h_132 (index_row (P := Pg) (h := h_132) (t := 50) (e' := 5) (k := .i64) (by kernel_rfl) (by kernel_rfl) (by kernel_rfl) e140) ?_
    replace z := oS z; obtain ⟨h_141, e142, z⟩ := z
    refine WD.eff (h' := h_141) (by kernel_rfl) (by kernel_rfl) (Eq.trans (by kernel_rfl) (store_row (P := Pg) (h := h_132) (t := 5) (v := (.int .u8 t76)) (by kernel_rfl) (by kernel_rfl) e142)) (k := 2) (by kernel_rfl) (fun _ => (by kernel_rfl)) (by decide) ?_
    replace z := oS z; obtain ⟨t80, e143, z⟩ := z
    refine WD.b 0 (some 80) t80 h_141 (index_row (P := Pg) (h := h_141) (t := 50) (e' := 5) (k := .i64) (by kernel_rfl) (by kernel_rfl) (by kernel_rfl) e143) ?_
    replace z := oS z; obtain ⟨h_144, e145, z⟩ := z
    refine WD.eff (h' := h_144) (by kernel_rfl) (by kernel_rfl) (Eq.trans (by kernel_rfl) (store_row (P := Pg) (h := h_141) (t := 5) (v := (.int .u8 t78)) (by kernel_rfl) (by kernel_rfl) e145)) (k := 2) (by kernel_rfl) (fun _ => (by kernel_rfl)) (by decide) ?_
    refine WD.nil ?_
    refine Go.weaken (l' := [(0, t0), (1, .int .u64 t25), (4, .int .i64 t4_86), (10, .int .u32 t38)]) (Fr.c (Fr.c (Fr.c (Fr.c Fr.n)))) ?_
    refine n134 ?_
    refine W.s (fun _ n146 _ _ _ => ?_)
    refine W.draw (by kernel_rfl) (hc.ok w0) (plan := [0, 1, 2, 3, 4, 5, 6, 7, 8, 9, 10, 11, 12, 13, 14]) (by kernel_rfl) (by kernel_rfl) (by kernel_rfl) ?_
    refine WD.a 0 (some 81) t0 h_144 ?_
    refine WD.a 0 (some 82) (.int .i64 t4_86) h_144 ?_
    replace z := lS z; obtain ⟨t83, e147, z⟩ := z
    refine WD.val (d := (some 83)) (v := .int .i64 t83) (h' := h_144) (by kernel_rfl) (by kernel_rfl) (val_of (AV.int .i64) e147 (by kernel_rfl)) (k := 0) (by kernel_rfl) (fun e => absurd e (by decide)) (by decide) ?_
    refine WD.a 0 (some 84) t0 h_144 ?_
    refine WD.a 0 (some 85) (.int .i64 t4_86) h_144 ?_
    replace z := lS z; obtain ⟨t86, e148, z⟩ := z
    refine WD.val (d := (some 86)) (v := .int .i64 t86) (h' := h_144) (by kernel_rfl) (by kernel_rfl) (val_of (AV.int .i64) e148 (by kernel_rfl)) (k := 0) (by kernel_rfl) (fun e => absurd e (by decide)) (by decide) ?_
    refine WD.a 0 (some 87) (.int .u32 t38) h_144 ?_
    replace z := lS z; obtain ⟨t88, e149, z⟩ := z
    refine WD.val (d := (some 88)) (v := .int .u32 t88) (h' := h_144) (by kernel_rfl) (by kernel_rfl) (val_of (AV.int .u32) e149 (by kernel_rfl)) (k := 0) (by kernel_rfl) (fun e => absurd e (by decide)) (by decide) ?_
    replace z := oS z; obtain ⟨t89, e150, z⟩ := z
    refine WD.b 0 (some 89) (.int .u8 t89) h_144 (index_str (P := Pg) (h := h_144) (t := 9) (k := .u32) (by kernel_rfl) e150) ?_
    refine WD.a 0 (some 90) (.int .u32 t38) h_144 ?_
    replace z := oS z; obtain ⟨t91, e151, z⟩ := z
    refine WD.b 0 (some 91) (.int .u8 t91) h_144 (index_str (P := Pg) (h := h_144) (t := 9) (k := .u32) (by kernel_rfl) e151) ?_
    replace z := oS z; obtain ⟨t92, e152, z⟩ := z
    refine WD.b 0 (some 92) t92 h_144 (index_row (P := Pg) (h := h_144) (t := 50) (e' := 5) (k := .i64) (by kernel_rfl) (by kernel_rfl) (by kernel_rfl) e152) ?_
    replace z := oS z; obtain ⟨h_153, e154, z⟩ := z
    refine WD.eff (h' := h_153) (by kernel_rfl) (by kernel_rfl) (Eq.trans (by kernel_rfl) (store_row (P := Pg) (h := h_144) (t := 5) (v := (.int .u8 t89)) (by kernel_rfl) (by kernel_rfl) e154)) (k := 2) (by kernel_rfl) (fun _ => (by kernel_rfl)) (by decide) ?_
    replace z := oS z; obtain ⟨t93, e155, z⟩ := z
    refine WD.b 0 (some 93) t93 h_153 (index_row (P := Pg) (h := h_153) (t := 50) (e' := 5) (k := .i64) (by kernel_rfl) (by kernel_rfl) (by kernel_rfl) e155) ?_
    replace z := oS z; obtain ⟨h_156, e157, z⟩ := z
    refine WD.eff (h' := h_156) (by kernel_rfl) (by kernel_rfl) (Eq.trans (by kernel_rfl) (store_row (P := Pg) (h := h_153) (t := 5) (v := (.int .u8 t91)) (by kernel_rfl) (by kernel_rfl) e157)) (k := 2) (by kernel_rfl) (fun _ => (by kernel_rfl)) (by decide) ?_
    refine WD.nil ?_
    refine Go.weaken (l' := [(0, t0), (1, .int .u64 t25), (4, .int .i64 t4_86)]) (Fr.c (Fr.c (Fr.c Fr.n))) ?_
    refine n146 ?_
    refine W.r ?_
    refine WL.a (some 94) (.int .i64 t4_86) h_156 ?_
    replace z := lS z; obtain ⟨t95, e158, z⟩ := z
    refine WL.val (d := (some 95)) (v := .int .i64 t95) (h' := h_156) (by kernel_rfl) (by kernel_rfl) (val_of (AV.int .i64) e158 (by kernel_rfl)) ?_
    refine WL.a (some 4) (.int .i64 t95) h_156 ?_
    refine WL.n ?_
    refine Go.weaken (l' := [(0, t0), (1, .int .u64 t25), (4, .int .i64 t95)]) (Fr.c (Fr.c (Fr.c Fr.n))) ?_
    refine n91 ?_
    refine n84 ?_
    exact Go.weaken (Fr.c (Fr.c (Fr.c Fr.n))) (ih84 _ _ _ z)
   | false =>
    replace z := ifB_f z
    refine W.f ?_
    refine W.exit (by kernel_rfl) ?_
    refine e88 ?_
    refine e84 ?_
    refine s4 (by kernel_rfl) ?_
    exact Go.weaken (Fr.c (Fr.c (Fr.c Fr.n))) (J5 _ _ _ z)
 exact Go.weaken (Fr.c (Fr.c (Fr.c Fr.n))) (L84 _ _ _ _ z)
noncomputable def internal_strconv_formatBase10_fn (call : CallF) (n : Nat) : FnT := fun args h => match args with
 | [x0, x1] => obind (avInt .u64 x1) fun t1 => internal_strconv_formatBase10 call n x0 t1 h
 | _ => none
set_option maxRecDepth 100000 in
theorem internal_strconv_formatBase10_fn_eq (call : CallF) (n : Nat) (t0 : AV) (t1 : Int) (h : AHeap) : internal_strconv_formatBase10_fn call n [t0, .int .u64 t1] h = internal_strconv_formatBase10 call n t0 t1 h :=
 (Eq.trans (obind_eq (fun t1 => internal_strconv_formatBase10 call n t0 t1 h) (avInt_int .u64 t1)) rfl)
theorem internal_strconv_formatBase10_holds {call : CallF} (hc : SaysAll Pg call) (n : Nat) : Holds Pg 43 (internal_strconv_formatBase10_fn call n) := by
 intro args h r h2 e
 unfold internal_strconv_formatBase10_fn at e
 split at e
 ·replace e := oS e; obtain ⟨t1, c1, e⟩ := e; have c1 := avInt_some c1; subst c1
  exact internal_strconv_formatBase10_ok hc e
 ·cases e
noncomputable def internal_strconv_log10Pow2 (_ : CallF) (_ : Nat) (t0 : Int) (h : AHeap) : R :=
 lett (IntKind.i64.wrap (t0 * 78913)) fun (t4 : Int) =>
 obind (shrI .i64 t4 18) fun t5 =>
 some (.ret (.int .i64 t5), h)
theorem internal_strconv_log10Pow2_ok {call : CallF} (_ : SaysAll Pg call) {n : Nat} {t0 : Int} {h : AHeap} {rR : ARes} {hR : AHeap} (z : internal_strconv_log10Pow2 call n t0 h = some (rR, hR)) : Says Pg 47 [.int .i64 t0] h rR hR := by
 unfold internal_strconv_log10Pow2 at z
 refine says_of (fn := Tryd.f47) Tryd.func47 (c := codeOf Tryd.f47) (by kernel_rfl) (by kernel_rfl) (fun w0 m0 => ?_)
 refine W.weaken (l' := [(0, .int .i64 t0)]) (Fr.c Fr.n) ?_
 refine W.s (fun _ n1 _ _ _ => ?_)
 refine W.r ?_
 refine WL.a (some 2) (.int .i64 0) h ?_
 refine WL.n ?_
 refine Go.weaken (l' := [(0, .int .i64 t0)]) (Fr.c Fr.n) ?_
 refine n1 ?_
 refine W.s (fun _ n2 _ _ _ => ?_)
 refine W.r ?_
 refine WL.a (some 3) (.int .i64 t0) h ?_
 replace z := lS z; obtain ⟨t4, e3, z⟩ := z
 refine WL.val (d := (some 4)) (v := .int .i64 t4) (h' := h) (by kernel_rfl) (by kernel_rfl) (val_of (AV.int .i64) e3 (by kernel_rfl)) ?_
 replace z := oS z; obtain ⟨t5, e4, z⟩ := z
 refine WL.b (some 5) (.int .i64 t5) h (shr_int (P := Pg) (h := h) (t := 3) (k' := .u64) (lit := true) e4) ?_
 refine WL.a (some 2) (.int .i64 t5) h ?_
 refine WL.n ?_
 refine Go.weaken (l' := [(2, .int .i64 t5)]) (Fr.c Fr.n) ?_
 refine n2 ?_
 refine W.ret (by kernel_rfl) ?_
 obtain ⟨z, hF2⟩ := ret_inj z; subst z; subst hF2
 exact leave_of (rs := [.tmp 2]) (vs := [.int .i64 t5]) (by kernel_rfl) (res_tmp (by kernel_rfl) res_nil) (by kernel_rfl)
noncomputable def internal_strconv_log10Pow2_fn (call : CallF) (n : Nat) : FnT := fun args h => match args with
 | [x0] => obind (avInt .i64 x0) fun t0 => internal_strconv_log10Pow2 call n t0 h
 | _ => none
set_option maxRecDepth 100000 in
theorem internal_strconv_log10Pow2_fn_eq (call : CallF) (n : Nat) (t0 : Int) (h : AHeap) : internal_strconv_log10Pow2_fn call n [.int .i64 t0] h = internal_strconv_log10Pow2 call n t0 h :=
 (Eq.trans (obind_eq (fun t0 => internal_strconv_log10Pow2 call n t0 h) (avInt_int .i64 t0)) rfl)
theorem internal_strconv_log10Pow2_holds {call : CallF} (hc : SaysAll Pg call) (n : Nat) : Holds Pg 47 (internal_strconv_log10Pow2_fn call n) := by
 intro args h r h2 e
 unfold internal_strconv_log10Pow2_fn at e
 split at e
 ·replace e := oS e; obtain ⟨t0, c0, e⟩ := e; have c0 := avInt_some c0; subst c0
  exact internal_strconv_log10Pow2_ok hc e
 ·cases e
noncomputable def math_bits_Len64 (_ : CallF) (_ : Nat) (t0 : Int) (h : AHeap) : R :=
 lett (decide (t0 ≥ 4294967296)) fun (t4 : Bool) =>
 lett (fun (t0_6 : Int) (t2 : Int) (h_7 : AHeap) =>
  lett (decide (t0_6 ≥ 65536)) fun (t8 : Bool) =>
  lett (fun (t0_12 : Int) (t2_13 : Int) (h_14 : AHeap) =>
   lett (decide (t0_12 ≥ 256)) fun (t14 : Bool) =>
   lett (fun (t0_19 : Int) (t2_20 : Int) (h_21 : AHeap) =>
    lett (IntKind.u8.wrap t0_19) fun (t21 : Int) =>
    obind (idxS ([0, 1, 2, 2, 3, 3, 3, 3, 4, 4, 4, 4, 4, 4, 4, 4, 5, 5, 5, 5, 5, 5, 5, 5, 5, 5, 5, 5, 5, 5, 5, 5, 6, 6, 6, 6, 6, 6, 6, 6, 6, 6, 6, 6, 6, 6, 6, 6, 6, 6, 6, 6, 6, 6, 6, 6, 6, 6, 6, 6, 6, 6, 6, 6, 7, 7, 7, 7, 7, 7, 7, 7, 7, 7, 7, 7, 7, 7, 7, 7, 7, 7, 7, 7, 7, 7, 7, 7, 7, 7, 7, 7, 7, 7, 7, 7, 7, 7, 7, 7, 7, 7, 7, 7, 7, 7, 7, 7, 7, 7, 7, 7, 7, 7, 7, 7, 7, 7, 7, 7, 7, 7, 7, 7, 7, 7, 7, 7, 8, 8, 8, 8, 8, 8, 8, 8, 8, 8, 8, 8, 8, 8, 8, 8, 8, 8, 8, 8, 8, 8, 8, 8, 8, 8, 8, 8, 8, 8, 8, 8, 8, 8, 8, 8, 8, 8, 8, 8, 8, 8, 8, 8, 8, 8, 8, 8, 8, 8, 8, 8, 8, 8, 8, 8, 8, 8, 8, 8, 8, 8, 8, 8, 8, 8, 8, 8, 8, 8, 8, 8, 8, 8, 8, 8, 8, 8, 8, 8, 8, 8, 8, 8, 8, 8, 8, 8, 8, 8, 8, 8, 8, 8, 8, 8, 8, 8, 8, 8, 8, 8, 8, 8, 8, 8, 8, 8, 8, 8, 8, 8, 8, 8, 8, 8, 8, 8, 8, 8, 8, 8, 8, 8, 8, 8, 8, 8] : Bytes) t21) fun t22 =>
    lett (IntKind.i64.wrap t22) fun (t23 : Int) =>
    lett (IntKind.i64.wrap (t2_20 + t23)) fun (t24 : Int) =>
    some (.ret (.int .i64 t24), h_21)) fun k18 =>
   ifB t14
   (
    obind (shrI .u64 t0_12 8) fun t16 =>
    lett (IntKind.i64.wrap (t2_13 + 8)) fun (t18 : Int) =>
    k18 t16 t18 h_14)
   (
    k18 t0_12 t2_13 h_14)) fun k11 =>
  ifB t8
  (
   obind (shrI .u64 t0_6 16) fun t10 =>
   lett (IntKind.i64.wrap (t2 + 16)) fun (t12 : Int) =>
   k11 t10 t12 h_7)
  (
   k11 t0_6 t2 h_7)) fun k5 =>
 ifB t4
 (
  obind (shrI .u64 t0 32) fun t6 =>
  k5 t6 32 h)
 (
  k5 t0 0 h)
theorem math_bits_Len64_ok {call : CallF} (_ : SaysAll Pg call) {n : Nat} {t0 : Int} {h : AHeap} {rR : ARes} {hR : AHeap} (z : math_bits_Len64 call n t0 h = some (rR, hR)) : Says Pg 48 [.int .u64 t0] h rR hR := by
 unfold math_bits_Len64 at z
 refine says_of (fn := Tryd.f48) Tryd.func48 (c := codeOf Tryd.f48) (by kernel_rfl) (by kernel_rfl) (fun w0 m0 => ?_)
 refine W.weaken (l' := [(0, .int .u64 t0)]) (Fr.c Fr.n) ?_
 refine W.s (fun _ n1 _ _ _ => ?_)
 refine W.r ?_
 refine WL.a (some 2) (.int .i64 0) h ?_
 refine WL.n ?_
 refine Go.weaken (l' := [(0, .int .u64 t0), (2, .int .i64 0)]) (Fr.c (Fr.c Fr.n)) ?_
 refine n1 ?_
 refine W.s (fun K2 n2 _ _ _ => ?_)
 refine W.s (fun _ n3 _ _ _ => ?_)
 refine W.r ?_
 refine WL.a (some 3) (.int .u64 t0) h ?_
 replace z := lS z; obtain ⟨t4, e4, z⟩ := z
 refine WL.val (d := (some 4)) (v := .bool t4) (h' := h) (by kernel_rfl) (by kernel_rfl) (val_of AV.bool e4 (by kernel_rfl)) ?_
 refine WL.n ?_
 refine Go.weaken (l' := [(0, .int .u64 t0), (2, .int .i64 0), (4, .bool t4)]) (Fr.c (Fr.c (Fr.c Fr.n))) ?_
 refine n3 ?_
 replace z := lS z; obtain ⟨k5, e5, z⟩ := z
 have J5 : ∀ (t0_6 : Int) (t2 : Int) (h_7 : AHeap), k5 t0_6 t2 h_7 = some (rR, hR) → Go w0 m0 (Func.ntmps Tryd.f48) (K2 .normal) [(0, .int .u64 t0_6), (2, .int .i64 t2)] [] h_7 := by
  intro t0_6 t2 h_7 z
  rw [e5] at z
  refine n2 ?_
  refine W.s (fun K8 n8 _ _ _ => ?_)
  refine W.s (fun _ n9 _ _ _ => ?_)
  refine W.r ?_
  refine WL.a (some 7) (.int .u64 t0_6) h_7 ?_
  replace z := lS z; obtain ⟨t8, e10, z⟩ := z
  refine WL.val (d := (some 8)) (v := .bool t8) (h' := h_7) (by kernel_rfl) (by kernel_rfl) (val_of AV.bool e10 (by kernel_rfl)) ?_
  refine WL.n ?_
  refine Go.weaken (l' := [(0, .int .u64 t0_6), (2, .int .i64 t2), (8, .bool t8)]) (Fr.c (Fr.c (Fr.c Fr.n))) ?_
  refine n9 ?_
  replace z := lS z; obtain ⟨k11, e11, z⟩ := z
  have J11 : ∀ (t0_12 : Int) (t2_13 : Int) (h_14 : AHeap), k11 t0_12 t2_13 h_14 = some (rR, hR) → Go w0 m0 (Func.ntmps Tryd.f48) (K8 .normal) [(0, .int .u64 t0_12), (2, .int .i64 t2_13)] [] h_14 := by
   intro t0_12 t2_13 h_14 z
   rw [e11] at z
   refine n8 ?_
   refine W.s (fun K15 n15 _ _ _ => ?_)
   refine W.s (fun _ n16 _ _ _ => ?_)
   refine W.r ?_
   refine WL.a (some 13) (.int .u64 t0_12) h_14 ?_
   replace z := lS z; obtain ⟨t14, e17, z⟩ := z
   refine WL.val (d := (some 14)) (v := .bool t14) (h' := h_14) (by kernel_rfl) (by kernel_rfl) (val_of AV.bool e17 (by kernel_rfl)) ?_
   refine WL.n ?_
   refine Go.weaken (l' := [(0, .int .u64 t0_12), (2, .int .i64 t2_13), (14, .bool t14)]) (Fr.c (Fr.c (Fr.c Fr.n))) ?_
   refine n16 ?_
   replace z := lS z; obtain ⟨k18, e18, z⟩ := z
   have J18 : ∀ (t0_19 : Int) (t2_20 : Int) (h_21 : AHeap), k18 t0_19 t2_20 h_21 = some (rR, hR) → Go w0 m0 (Func.ntmps Tryd.f48) (K15 .normal) [(0, .int .u64 t0_19), (2, .int .i64 t2_20)] [] h_21 := by
    intro t0_19 t2_20 h_21 z
    rw [e18] at z
    refine n15 ?_
    refine W.s (fun _ n22 _ _ _ => ?_)
    refine W.r ?_
    refine WL.a (some 19) (.int .i64 t2_20) h_21 ?_
    refine WL.a (some 20) (.int .u64 t0_19) h_21 ?_
    replace z := lS z; obtain ⟨t21, e23, z⟩ := z
    refine WL.val (d := (some 21)) (v := .int .u8 t21) (h' := h_21) (by kernel_rfl) (by kernel_rfl) (val_of (AV.int .u8) e23 (by kernel_rfl)) ?_
    replace z := oS z; obtain ⟨t22, e24, z⟩ := z
    refine WL.b (some 22) (.int .u8 t22) h_21 (index_str (P := Pg) (h := h_21) (t := 9) (k := .u8) (by kernel_rfl) e24) ?_
    replace z := lS z; obtain ⟨t23, e25, z⟩ := z
    refine WL.val (d := (some 23)) (v := .int .i64 t23) (h' := h_21) (by kernel_rfl) (by kernel_rfl) (val_of (AV.int .i64) e25 (by kernel_rfl)) ?_
    replace z := lS z; obtain ⟨t24, e26, z⟩ := z
    refine WL.val (d := (some 24)) (v := .int .i64 t24) (h' := h_21) (by kernel_rfl) (by kernel_rfl) (val_of (AV.int .i64) e26 (by kernel_rfl)) ?_
    refine WL.a (some 2) (.int .i64 t24) h_21 ?_
    refine WL.n ?_
    refine Go.weaken (l' := [(2, .int .i64 t24)]) (Fr.c Fr.n) ?_
    refine n22 ?_
    refine W.ret (by kernel_rfl) ?_
    obtain ⟨z, hF2⟩ := ret_inj z; subst z; subst hF2
    exact leave_of (rs := [.tmp 2]) (vs := [.int .i64 t24]) (by kernel_rfl) (res_tmp (by kernel_rfl) res_nil) (by kernel_rfl)
   cases t14 with
   | true =>
    replace z := ifB_t z
    refine W.t ?_
    refine W.s (fun _ n27 _ _ _ => ?_)
    refine W.r ?_
    refine WL.a (some 15) (.int .u64 t0_12) h_14 ?_
    replace z := oS z; obtain ⟨t16, e28, z⟩ := z
    refine WL.b (some 16) (.int .u64 t16) h_14 (shr_int (P := Pg) (h := h_14) (t := 69) (k' := .u64) (lit := true) e28) ?_
    refine WL.a (some 0) (.int .u64 t16) h_14 ?_
    refine WL.n ?_
    refine Go.weaken (l' := [(0, .int .u64 t16), (2, .int .i64 t2_13)]) (Fr.c (Fr.c Fr.n)) ?_
    refine n27 ?_
    refine W.r ?_
    refine WL.a (some 17) (.int .i64 t2_13) h_14 ?_
    replace z := lS z; obtain ⟨t18, e29, z⟩ := z
    refine WL.val (d := (some 18)) (v := .int .i64 t18) (h' := h_14) (by kernel_rfl) (by kernel_rfl) (val_of (AV.int .i64) e29 (by kernel_rfl)) ?_
    refine WL.a (some 2) (.int .i64 t18) h_14 ?_
    refine WL.n ?_
    refine Go.weaken (l' := [(0, .int .u64 t16), (2, .int .i64 t18)]) (Fr.c (Fr.c Fr.n)) ?_
    exact Go.weaken (Fr.c (Fr.c Fr.n)) (J18 _ _ _ z)
   | false =>
    replace z := ifB_f z
    refine W.f ?_
    refine W.skip (by kernel_rfl) ?_
    exact Go.weaken (Fr.c (Fr.c Fr.n)) (J18 _ _ _ z)
  cases t8 with
  | true =>
   replace z := ifB_t z
   refine W.t ?_
   refine W.s (fun _ n30 _ _ _ => ?_)
   refine W.r ?_
   refine WL.a (some 9) (.int .u64 t0_6) h_7 ?_
   replace z := oS z; obtain ⟨t10, e31, z⟩ := z
   refine WL.b (some 10) (.int .u64 t10) h_7 (shr_int (P := Pg) (h := h_7) (t := 69) (k' := .u64) (lit := true) e31) ?_
   refine WL.a (some 0) (.int .u64 t10) h_7 ?_
   refine WL.n ?_
   refine Go.weaken (l' := [(0, .int .u64 t10), (2, .int .i64 t2)]) (Fr.c (Fr.c Fr.n)) ?_
   refine n30 ?_
   refine W.r ?_
   refine WL.a (some 11) (.int .i64 t2) h_7 ?_
   replace z := lS z; obtain ⟨t12, e32, z⟩ := z
   refine WL.val (d := (some 12)) (v := .int .i64 t12) (h' := h_7) (by kernel_rfl) (by kernel_rfl) (val_of (AV.int .i64) e32 (by kernel_rfl)) ?_
   refine WL.a (some 2) (.int .i64 t12) h_7 ?_
   refine WL.n ?_
   refine Go.weaken (l' := [(0, .int .u64 t10), (2, .int .i64 t12)]) (Fr.c (Fr.c Fr.n)) ?_
   exact Go.weaken (Fr.c (Fr.c Fr.n)) (J11 _ _ _ z)
  | false =>
   replace z := ifB_f z
   refine W.f ?_
   refine W.skip (by kernel_rfl) ?_
   exact Go.weaken (Fr.c (Fr.c Fr.n)) (J11 _ _ _ z)
 cases t4 with
 | true =>
  replace z := ifB_t z
  refine W.t ?_
  refine W.s (fun _ n33 _ _ _ => ?_)
  refine W.r ?_
  refine WL.a (some 5) (.int .u64 t0) h ?_
  replace z := oS z; obtain ⟨t6, e34, z⟩ := z
  refine WL.b (some 6) (.int .u64 t6) h (shr_int (P := Pg) (h := h) (t := 69) (k' := .u64) (lit := true) e34) ?_
  refine WL.a (some 0) (.int .u64 t6) h ?_
  refine WL.n ?_
  refine Go.weaken (l' := [(0, .int .u64 t6)]) (Fr.c Fr.n) ?_
  refine n33 ?_
  refine W.r ?_
  refine WL.a (some 2) (.int .i64 32) h ?_
  refine WL.n ?_
  refine Go.weaken (l' := [(0, .int .u64 t6), (2, .int .i64 32)]) (Fr.c (Fr.c Fr.n)) ?_
  exact Go.weaken (Fr.c (Fr.c Fr.n)) (J5 _ _ _ z)
 | false =>
  replace z := ifB_f z
  refine W.f ?_
  refine W.skip (by kernel_rfl) ?_
  exact Go.weaken (Fr.c (Fr.c Fr.n)) (J5 _ _ _ z)
noncomputable def math_bits_Len64_fn (call : CallF) (n : Nat) : FnT := fun args h => match args with
 | [x0] => obind (avInt .u64 x0) fun t0 => math_bits_Len64 call n t0 h
 | _ => none
set_option maxRecDepth 100000 in
theorem math_bits_Len64_fn_eq (call : CallF) (n : Nat) (t0 : Int) (h : AHeap) : math_bits_Len64_fn call n [.int .u64 t0] h = math_bits_Len64 call n t0 h :=
 (Eq.trans (obind_eq (fun t0 => math_bits_Len64 call n t0 h) (avInt_int .u64 t0)) rfl)
theorem math_bits_Len64_holds {call : CallF} (hc : SaysAll Pg call) (n : Nat) : Holds Pg 48 (math_bits_Len64_fn call n) := by
 intro args h r h2 e
 unfold math_bits_Len64_fn at e
 split at e
 ·replace e := oS e; obtain ⟨t0, c0, e⟩ := e; have c0 := avInt_some c0; subst c0
  exact math_bits_Len64_ok hc e
 ·cases e
noncomputable def internal_strconv_bool2_int_ (_ : CallF) (_ : Nat) (t0 : Bool) (h : AHeap) : R :=
 ifB t0
 (
  some (.ret (.int .i64 1), h))
 (
  some (.ret (.int .i64 0), h))
theorem internal_strconv_bool2_int__ok {call : CallF} (_ : SaysAll Pg call) {n : Nat} {t0 : Bool} {h : AHeap} {rR : ARes} {hR : AHeap} (z : internal_strconv_bool2_int_ call n t0 h = some (rR, hR)) : Says Pg 49 [.bool t0] h rR hR := by
 unfold internal_strconv_bool2_int_ at z
 refine says_of (fn := Tryd.f49) Tryd.func49 (c := codeOf Tryd.f49) (by kernel_rfl) (by kernel_rfl) (fun w0 m0 => ?_)
 refine W.weaken (l' := [(0, .bool t0)]) (Fr.c Fr.n) ?_
 refine W.s (fun _ n1 _ _ _ => ?_)
 refine W.r ?_
 refine WL.a (some 2) (.int .i64 0) h ?_
 refine WL.n ?_
 refine Go.weaken (l' := [(0, .bool t0)]) (Fr.c Fr.n) ?_
 refine n1 ?_
 refine W.s (fun _ n2 _ q2 _ => ?_)
 refine W.s (fun _ n3 _ _ _ => ?_)
 refine W.r ?_
 refine WL.a (some 3) (.bool t0) h ?_
 refine WL.n ?_
 refine Go.weaken (l' := [(3, .bool t0)]) (Fr.c Fr.n) ?_
 refine n3 ?_
 cases t0 with
 | true =>
  replace z := ifB_t z
  refine W.t ?_
  refine W.s (fun _ n4 _ _ _ => ?_)
  refine W.r ?_
  refine WL.a (some 2) (.int .i64 1) h ?_
  refine WL.n ?_
  refine Go.weaken (l' := [(2, .int .i64 1)]) (Fr.c Fr.n) ?_
  refine n4 ?_
  refine W.ret (by kernel_rfl) ?_
  refine q2 ?_
  obtain ⟨z, hF2⟩ := ret_inj z; subst z; subst hF2
  exact leave_of (rs := [.tmp 2]) (vs := [.int .i64 1]) (by kernel_rfl) (res_tmp (by kernel_rfl) res_nil) (by kernel_rfl)
 | false =>
  replace z := ifB_f z
  refine W.f ?_
  refine W.skip (by kernel_rfl) ?_
  refine n2 ?_
  refine W.s (fun _ n5 _ _ _ => ?_)
  refine W.r ?_
  refine WL.a (some 2) (.int .i64 0) h ?_
  refine WL.n ?_
  refine Go.weaken (l' := [(2, .int .i64 0)]) (Fr.c Fr.n) ?_
  refine n5 ?_
  refine W.ret (by kernel_rfl) ?_
  obtain ⟨z, hF2⟩ := ret_inj z; subst z; subst hF2
  exact leave_of (rs := [.tmp 2]) (vs := [.int .i64 0]) (by kernel_rfl) (res_tmp (by kernel_rfl) res_nil) (by kernel_rfl)
noncomputable def internal_strconv_bool2_int__fn (call : CallF) (n : Nat) : FnT := fun args h => match args with
 | [x0] => obind (avBool x0) fun t0 => internal_strconv_bool2_int_ call n t0 h
 | _ => none
set_option maxRecDepth 100000 in
theorem internal_strconv_bool2_int__fn_eq (call : CallF) (n : Nat) (t0 : Bool) (h : AHeap) : internal_strconv_bool2_int__fn call n [.bool t0] h = internal_strconv_bool2_int_ call n t0 h :=
 (Eq.trans (obind_eq (fun t0 => internal_strconv_bool2_int_ call n t0 h) (avBool_bool t0)) rfl)
theorem internal_strconv_bool2_int__holds {call : CallF} (hc : SaysAll Pg call) (n : Nat) : Holds Pg 49 (internal_strconv_bool2_int__fn call n) := by
 intro args h r h2 e
 unfold internal_strconv_bool2_int__fn at e
 split at e
 ·replace e := oS e; obtain ⟨t0, c0, e⟩ := e; have c0 := avBool_some c0; subst c0
  exact internal_strconv_bool2_int__ok hc e
 ·cases e
set_option maxHeartbeats 4000000
set_option maxRecDepth 20000
noncomputable def pattern_Quote_L0b (call : CallF) (t0 : Bytes) (h : AHeap) (k11 : AHeap → R) (self : Int → AHeap → R) (t8 : Int) (h_21 : AHeap) : R :=
 lett (decide (t8 < (lenS t0))) fun (t9 : Bool) =>
 ifB t9
 (
  obind (idxS t0 t8) fun t13 =>
  callN (call 24 [(newP h), .int .u8 t13] h_21) fun _ h_29 =>
  lett (IntKind.i64.wrap (t8 + 1)) fun (t15 : Int) =>
  self t15 h_29)
 (
  k11 h_21)
noncomputable def pattern_Quote_L0 (call : CallF) (t0 : Bytes) (h : AHeap) (k11 : AHeap → R) : Nat → Int → AHeap → R := iterR (fun _ _ => none) (pattern_Quote_L0b call t0 h k11)
theorem pattern_Quote_L0_s (call : CallF) (t0 : Bytes) (h : AHeap) (k11 : AHeap → R) (m : Nat) : pattern_Quote_L0 call t0 h k11 (m + 1) = pattern_Quote_L0b call t0 h k11 (pattern_Quote_L0 call t0 h k11 m) := rfl
noncomputable def pattern_Quote (call : CallF) (n : Nat) (t0 : Bytes) (h : AHeap) : R :=
 lett (newH h 52 [.nilp, .nsl]) fun h_3 =>
 callN (call 23 [(newP h), .int .u8 34] h_3) fun _ h_6 =>
 lett (fun  (h_12 : AHeap) =>
  callN (call 23 [(newP h), .int .u8 34] h_12) fun _ h_14 =>
  callN (call 25 [(newP h)] h_14) fun r17 h_17 =>
  obind (avStr r17) fun t17 =>
  some (.ret (strA t17), h_17)) fun k11 =>
 pattern_Quote_L0 call t0 h k11 n 0 h_6
theorem pattern_Quote_ok {call : CallF} (hc : SaysAll Pg call) {n : Nat} {t0 : Bytes} {h : AHeap} {rR : ARes} {hR : AHeap} (z : pattern_Quote call n t0 h = some (rR, hR)) : Says Pg 15 [strA t0] h rR hR := by
 unfold pattern_Quote at z
 refine says_of (fn := Tryd.f15) Tryd.func15 (c := codeOf Tryd.f15) (by kernel_rfl) (by kernel_rfl) (fun w0 m0 => ?_)
 refine W.weaken (l' := [(0, strA t0)]) (Fr.c Fr.n) ?_
 refine W.s (fun _ n1 _ _ _ => ?_)
 refine W.r ?_
 refine WL.a (some 2) (strA ([] : Bytes)) h ?_
 refine WL.n ?_
 refine Go.weaken (l' := [(0, strA t0)]) (Fr.c Fr.n) ?_
 refine n1 ?_
 refine W.s (fun _ n2 _ _ _ => ?_)
 refine W.r ?_
 replace z := lS z; obtain ⟨h_3, e4, z⟩ := z
 refine WL.val (d := (some 3)) (v := (newP h)) (h' := h_3) (by kernel_rfl) (by kernel_rfl) (val_ofH e4 (by kernel_rfl)) ?_
 refine WL.n ?_
 refine Go.weaken (l' := [(0, strA t0), (3, newP h)]) (Fr.c (Fr.c Fr.n)) ?_
 refine n2 ?_
 refine W.s (fun _ n5 _ _ _ => ?_)
 refine W.r ?_
 replace z := callN_some z; obtain ⟨r5, h_6, e7, z⟩ := z
 refine WL.c (hc.ok w0) (some 5) e7 ?_
 refine WL.n ?_
 refine Go.weaken (l' := [(0, strA t0), (3, newP h)]) (Fr.c (Fr.c Fr.n)) ?_
 refine n5 ?_
 refine W.s (fun K8 n8 _ _ _ => ?_)
 refine W.s (fun _ n9 _ _ _ => ?_)
 refine W.r ?_
 refine WL.a (some 6) (strA t0) h_6 ?_
 refine WL.a (some 7) (.int .i64 (lenS t0)) h_6 ?_
 refine WL.a (some 8) (.int .i64 0) h_6 ?_
 refine WL.n ?_
 refine Go.weaken (l' := [(0, strA t0), (3, newP h), (7, .int .i64 (lenS t0)), (8, .int .i64 0)]) (Fr.c (Fr.c (Fr.c (Fr.c Fr.n)))) ?_
 refine n9 ?_
 replace z := lS z; obtain ⟨k11, e11, z⟩ := z
 have J11 : ∀  (h_12 : AHeap), k11 h_12 = some (rR, hR) → Go w0 m0 (Func.ntmps Tryd.f15) (K8 .normal) [(3, newP h)] [] h_12 := by
  intro  h_12 z
  rw [e11] at z
  refine n8 ?_
  refine W.s (fun _ n13 _ _ _ => ?_)
  refine W.r ?_
  replace z := callN_some z; obtain ⟨r16, h_14, e15, z⟩ := z
  refine WL.c (hc.ok w0) (some 16) e15 ?_
  refine WL.n ?_
  refine Go.weaken (l' := [(3, newP h)]) (Fr.c Fr.n) ?_
  refine n13 ?_
  refine W.s (fun _ n16 _ _ _ => ?_)
  refine W.r ?_
  replace z := callN_some z; obtain ⟨r17, h_17, e18, z⟩ := z
  replace z := oS z; obtain ⟨t17, c19, z⟩ := z
  have c19 := avStr_some c19
  subst c19
  refine WL.c (hc.ok w0) (some 17) e18 ?_
  refine WL.a (some 2) (strA t17) h_17 ?_
  refine WL.n ?_
  refine Go.weaken (l' := [(2, strA t17)]) (Fr.c Fr.n) ?_
  refine n16 ?_
  refine W.ret (by kernel_rfl) ?_
  obtain ⟨z, hF2⟩ := ret_inj z; subst z; subst hF2
  exact leave_of (rs := [.tmp 2]) (vs := [strA t17]) (by kernel_rfl) (res_tmp (by kernel_rfl) res_nil) (by kernel_rfl)
 refine W.blockK (by kernel_rfl) (fun K10 n10 s10 o10 q10 p10 => ?_)
 refine W.loopK (by kernel_rfl) (fun I20 K20 b20 n20 e20 q20 p20 => ?_)
 have L20 : ∀ (m : Nat) (t8 : Int) (h_21 : AHeap), pattern_Quote_L0 call t0 h k11 m t8 h_21 = some (rR, hR) → Go w0 m0 (Func.ntmps Tryd.f15) I20 [(0, strA t0), (3, newP h), (7, .int .i64 (lenS t0)), (8, .int .i64 t8)] [] h_21 := by
  intro m
  induction m with
  | zero => intro t8 h_21 z; cases z
  | succ m ih20 =>
   intro t8 h_21 z
   rw [pattern_Quote_L0_s] at z; unfold pattern_Quote_L0b at z
   refine b20 ?_
   refine W.s (fun _ n22 _ _ _ => ?_)
   refine W.r ?_
   replace z := lS z; obtain ⟨t9, e23, z⟩ := z
   refine WL.val (d := (some 9)) (v := .bool t9) (h' := h_21) (by kernel_rfl) (by kernel_rfl) (val_of AV.bool e23 (by kernel_rfl)) ?_
   refine WL.n ?_
   refine Go.weaken (l' := [(0, strA t0), (3, newP h), (7, .int .i64 (lenS t0)), (8, .int .i64 t8), (9, .bool t9)]) (Fr.c (Fr.c (Fr.c (Fr.c (Fr.c Fr.n))))) ?_
   refine n22 ?_
   refine W.s (fun _ n24 e24 _ _ => ?_)
   cases t9 with
   | true =>
    replace z := ifB_t z
    refine W.t ?_
    refine W.skip (by kernel_rfl) ?_
    refine n24 ?_
    refine W.s (fun _ n25 _ _ _ => ?_)
    refine W.blockK (by kernel_rfl) (fun K26 n26 s26 o26 q26 p26 => ?_)
    refine W.s (fun _ n27 _ _ _ => ?_)
    refine W.r ?_
    refine WL.a (some 10) (.int .i64 t8) h_21 ?_
    refine WL.a (some 4) (.int .i64 t8) h_21 ?_
    refine WL.n ?_
    refine Go.weaken (l' := [(0, strA t0), (3, newP h), (4, .int .i64 t8), (7, .int .i64 (lenS t0)), (8, .int .i64 t8)]) (Fr.c (Fr.c (Fr.c (Fr.c (Fr.c Fr.n))))) ?_
    refine n27 ?_
    refine W.r ?_
    refine WL.a (some 11) (strA t0) h_21 ?_
    refine WL.a (some 12) (.int .i64 t8) h_21 ?_
    replace z := oS z; obtain ⟨t13, e28, z⟩ := z
    refine WL.b (some 13) (.int .u8 t13) h_21 (index_str (P := Pg) (h := h_21) (t := 9) (k := .i64) (by kernel_rfl) e28) ?_
    replace z := callN_some z; obtain ⟨r14, h_29, e30, z⟩ := z
    refine WL.c (hc.ok w0) (some 14) e30 ?_
    refine WL.n ?_
    refine Go.weaken (l' := [(0, strA t0), (3, newP h), (7, .int .i64 (lenS t0)), (8, .int .i64 t8)]) (Fr.c (Fr.c (Fr.c (Fr.c Fr.n)))) ?_
    refine n26 ?_
    refine n25 ?_
    refine W.r ?_
    replace z := lS z; obtain ⟨t15, e31, z⟩ := z
    refine WL.val (d := (some 15)) (v := .int .i64 t15) (h' := h_29) (by kernel_rfl) (by kernel_rfl) (val_of (AV.int .i64) e31 (by kernel_rfl)) ?_
    refine WL.a (some 8) (.int .i64 t15) h_29 ?_
    refine WL.n ?_
    refine Go.weaken (l' := [(0, strA t0), (3, newP h), (7, .int .i64 (lenS t0)), (8, .int .i64 t15)]) (Fr.c (Fr.c (Fr.c (Fr.c Fr.n)))) ?_
    refine n20 ?_
    exact Go.weaken (Fr.c (Fr.c (Fr.c (Fr.c Fr.n)))) (ih20 _ _ z)
   | false =>
    replace z := ifB_f z
    refine W.f ?_
    refine W.exit (by kernel_rfl) ?_
    refine e24 ?_
    refine e20 ?_
    refine s10 (by kernel_rfl) ?_
    exact Go.weaken (Fr.c Fr.n) (J11 _ z)
 exact Go.weaken (Fr.c (Fr.c (Fr.c (Fr.c Fr.n)))) (L20 _ _ _ z)
noncomputable def pattern_Quote_fn (call : CallF) (n : Nat) : FnT := fun args h => match args with
 | [x0] => obind (avStr x0) fun t0 => pattern_Quote call n t0 h
 | _ => none
set_option maxRecDepth 100000 in
theorem pattern_Quote_fn_eq (call : CallF) (n : Nat) (t0 : Bytes) (h : AHeap) : pattern_Quote_fn call n [strA t0] h = pattern_Quote call n t0 h :=
 (Eq.trans (obind_eq (fun t0 => pattern_Quote call n t0 h) (avStr_str t0)) rfl)
theorem pattern_Quote_holds {call : CallF} (hc : SaysAll Pg call) (n : Nat) : Holds Pg 15 (pattern_Quote_fn call n) := by
 intro args h r h2 e
 unfold pattern_Quote_fn at e
 split at e
 ·replace e := oS e; obtain ⟨t0, c0, e⟩ := e; have c0 := avStr_some c0; subst c0
  exact pattern_Quote_ok hc e
 ·cases e
noncomputable def pattern_writeForm (call : CallF) (_ : Nat) (t0 : AV) (t1 : Int) (h : AHeap) : R :=
 callN (call 35 [.int .u8 t1] h) fun r6 h_3 =>
 obind (avInt .u8 r6) fun t6 =>
 lett ((t6 : Int) != 0) fun (t8 : Bool) =>
 ifB t8
 (
  callN (call 23 [t0, .int .u8 92] h_3) fun _ h_9 =>
  callN (call 23 [t0, .int .u8 t6] h_9) fun _ h_12 =>
  some (.ret (.tup []), h_12))
 (
  callN (call 36 [.int .u8 t1] h_3) fun r15 h_16 =>
  obind (avBool r15) fun t15 =>
  ifB t15
  (
   callN (call 23 [t0, .int .u8 t1] h_16) fun _ h_20 =>
   some (.ret (.tup []), h_20))
  (
   callN (call 37 [t0, strA ([92, 120] : Bytes)] h_16) fun _ h_23 =>
   obind (shrI .u8 t1 4) fun t23 =>
   obind (idxS ([48, 49, 50, 51, 52, 53, 54, 55, 56, 57, 97, 98, 99, 100, 101, 102] : Bytes) t23) fun t24 =>
   callN (call 23 [t0, .int .u8 t24] h_23) fun _ h_28 =>
   lett (andI .u8 t1 15) fun (t28 : Int) =>
   obind (idxS ([48, 49, 50, 51, 52, 53, 54, 55, 56, 57, 97, 98, 99, 100, 101, 102] : Bytes) t28) fun t29 =>
   callN (call 23 [t0, .int .u8 t29] h_28) fun _ h_32 =>
   some (.ret (.tup []), h_32)))
theorem pattern_writeForm_ok {call : CallF} (hc : SaysAll Pg call) {n : Nat} {t0 : AV} {t1 : Int} {h : AHeap} {rR : ARes} {hR : AHeap} (z : pattern_writeForm call n t0 t1 h = some (rR, hR)) : Says Pg 24 [t0, .int .u8 t1] h rR hR := by
 unfold pattern_writeForm at z
 refine says_of (fn := Tryd.f24) Tryd.func24 (c := codeOf Tryd.f24) (by kernel_rfl) (by kernel_rfl) (fun w0 m0 => ?_)
 refine W.weaken (l' := [(0, t0), (1, .int .u8 t1)]) (Fr.c (Fr.c Fr.n)) ?_
 refine W.s (fun _ n1 _ q1 _ => ?_)
 refine W.s (fun _ n2 _ _ _ => ?_)
 refine W.r ?_
 refine WL.a (some 5) (.int .u8 t1) h ?_
 replace z := callN_some z; obtain ⟨r6, h_3, e4, z⟩ := z
 replace z := oS z; obtain ⟨t6, c5, z⟩ := z
 have c5 := avInt_some c5
 subst c5
 refine WL.c (hc.ok w0) (some 6) e4 ?_
 refine WL.a (some 4) (.int .u8 t6) h_3 ?_
 refine WL.n ?_
 refine Go.weaken (l' := [(0, t0), (1, .int .u8 t1), (4, .int .u8 t6)]) (Fr.c (Fr.c (Fr.c Fr.n))) ?_
 refine n2 ?_
 refine W.s (fun _ n6 _ _ _ => ?_)
 refine W.r ?_
 refine WL.a (some 7) (.int .u8 t6) h_3 ?_
 replace z := lS z; obtain ⟨t8, e7, z⟩ := z
 refine WL.val (d := (some 8)) (v := .bool t8) (h' := h_3) (by kernel_rfl) (by kernel_rfl) (val_of AV.bool e7 (by kernel_rfl)) ?_
 refine WL.n ?_
 refine Go.weaken (l' := [(0, t0), (1, .int .u8 t1), (4, .int .u8 t6), (8, .bool t8)]) (Fr.c (Fr.c (Fr.c (Fr.c Fr.n)))) ?_
 refine n6 ?_
 cases t8 with
 | true =>
  replace z := ifB_t z
  refine W.t ?_
  refine W.s (fun _ n8 _ _ _ => ?_)
  refine W.r ?_
  refine WL.a (some 9) t0 h_3 ?_
  replace z := callN_some z; obtain ⟨r10, h_9, e10, z⟩ := z
  refine WL.c (hc.ok w0) (some 10) e10 ?_
  refine WL.n ?_
  refine Go.weaken (l' := [(0, t0), (4, .int .u8 t6)]) (Fr.c (Fr.c Fr.n)) ?_
  refine n8 ?_
  refine W.s (fun _ n11 _ _ _ => ?_)
  refine W.r ?_
  refine WL.a (some 11) t0 h_9 ?_
  refine WL.a (some 12) (.int .u8 t6) h_9 ?_
  replace z := callN_some z; obtain ⟨r13, h_12, e13, z⟩ := z
  refine WL.c (hc.ok w0) (some 13) e13 ?_
  refine WL.n ?_
  refine Go.weaken (l' := []) Fr.n ?_
  refine n11 ?_
  refine W.ret (by kernel_rfl) ?_
  refine q1 ?_
  obtain ⟨z, hF2⟩ := ret_inj z; subst z; subst hF2
  exact leave_of (rs := []) (vs := []) (by kernel_rfl) res_nil (by kernel_rfl)
 | false =>
  replace z := ifB_f z
  refine W.f ?_
  refine W.skip (by kernel_rfl) ?_
  refine n1 ?_
  refine W.s (fun _ n14 _ q14 _ => ?_)
  refine W.s (fun _ n15 _ _ _ => ?_)
  refine W.r ?_
  refine WL.a (some 14) (.int .u8 t1) h_3 ?_
  replace z := callN_some z; obtain ⟨r15, h_16, e17, z⟩ := z
  replace z := oS z; obtain ⟨t15, c18, z⟩ := z
  have c18 := avBool_some c18
  subst c18
  refine WL.c (hc.ok w0) (some 15) e17 ?_
  refine WL.n ?_
  refine Go.weaken (l' := [(0, t0), (1, .int .u8 t1), (15, .bool t15)]) (Fr.c (Fr.c (Fr.c Fr.n))) ?_
  refine n15 ?_
  cases t15 with
  | true =>
   replace z := ifB_t z
   refine W.t ?_
   refine W.s (fun _ n19 _ _ _ => ?_)
   refine W.r ?_
   refine WL.a (some 16) t0 h_16 ?_
   refine WL.a (some 17) (.int .u8 t1) h_16 ?_
   replace z := callN_some z; obtain ⟨r18, h_20, e21, z⟩ := z
   refine WL.c (hc.ok w0) (some 18) e21 ?_
   refine WL.n ?_
   refine Go.weaken (l' := []) Fr.n ?_
   refine n19 ?_
   refine W.ret (by kernel_rfl) ?_
   refine q14 ?_
   obtain ⟨z, hF2⟩ := ret_inj z; subst z; subst hF2
   exact leave_of (rs := []) (vs := []) (by kernel_rfl) res_nil (by kernel_rfl)
  | false =>
   replace z := ifB_f z
   refine W.f ?_
   refine W.skip (by kernel_rfl) ?_
   refine n14 ?_
   refine W.s (fun _ n22 _ _ _ => ?_)
   refine W.r ?_
   refine WL.a (some 19) t0 h_16 ?_
   replace z := callN_some z; obtain ⟨r20, h_23, e24, z⟩ := z
   refine WL.c (hc.ok w0) (some 20) e24 ?_
   refine WL.n ?_
   refine Go.weaken (l' := [(0, t0), (1, .int .u8 t1)]) (Fr.c (Fr.c Fr.n)) ?_
   refine n22 ?_
   refine W.s (fun _ n25 _ _ _ => ?_)
   refine W.r ?_
   refine WL.a (some 21) t0 h_23 ?_
   refine WL.a (some 22) (.int .u8 t1) h_23 ?_
   replace z := oS z; obtain ⟨t23, e26, z⟩ := z
   refine WL.b (some 23) (.int .u8 t23) h_23 (shr_int (P := Pg) (h := h_23) (t := 5) (k' := .u64) (lit := true) e26) ?_
   replace z := oS z; obtain ⟨t24, e27, z⟩ := z
   refine WL.b (some 24) (.int .u8 t24) h_23 (index_str (P := Pg) (h := h_23) (t := 9) (k := .u8) (by kernel_rfl) e27) ?_
   replace z := callN_some z; obtain ⟨r25, h_28, e29, z⟩ := z
   refine WL.c (hc.ok w0) (some 25) e29 ?_
   refine WL.n ?_
   refine Go.weaken (l' := [(0, t0), (1, .int .u8 t1)]) (Fr.c (Fr.c Fr.n)) ?_
   refine n25 ?_
   refine W.r ?_
   refine WL.a (some 26) t0 h_28 ?_
   refine WL.a (some 27) (.int .u8 t1) h_28 ?_
   replace z := lS z; obtain ⟨t28, e30, z⟩ := z
   refine WL.val (d := (some 28)) (v := .int .u8 t28) (h' := h_28) (by kernel_rfl) (by kernel_rfl) (val_of (AV.int .u8) e30 (by kernel_rfl)) ?_
   replace z := oS z; obtain ⟨t29, e31, z⟩ := z
   refine WL.b (some 29) (.int .u8 t29) h_28 (index_str (P := Pg) (h := h_28) (t := 9) (k := .u8) (by kernel_rfl) e31) ?_
   replace z := callN_some z; obtain ⟨r30, h_32, e33, z⟩ := z
   refine WL.c (hc.ok w0) (some 30) e33 ?_
   refine WL.n ?_
   refine Go.weaken (l' := []) Fr.n ?_
   obtain ⟨z, hF2⟩ := ret_inj z; subst z; subst hF2
   exact leaveN_of (rs := []) (vs := []) (by kernel_rfl) res_nil (by kernel_rfl)
noncomputable def pattern_writeForm_fn (call : CallF) (n : Nat) : FnT := fun args h => match args with
 | [x0, x1] => obind (avInt .u8 x1) fun t1 => pattern_writeForm call n x0 t1 h
 | _ => none
set_option maxRecDepth 100000 in
theorem pattern_writeForm_fn_eq (call : CallF) (n : Nat) (t0 : AV) (t1 : Int) (h : AHeap) : pattern_writeForm_fn call n [t0, .int .u8 t1] h = pattern_writeForm call n t0 t1 h :=
 (Eq.trans (obind_eq (fun t1 => pattern_writeForm call n t0 t1 h) (avInt_int .u8 t1)) rfl)
theorem pattern_writeForm_holds {call : CallF} (hc : SaysAll Pg call) (n : Nat) : Holds Pg 24 (pattern_writeForm_fn call n) := by
 intro args h r h2 e
 unfold pattern_writeForm_fn at e
 split at e
 ·replace e := oS e; obtain ⟨t1, c1, e⟩ := e; have c1 := avInt_some c1; subst c1
  exact pattern_writeForm_ok hc e
 ·cases e
noncomputable def strings_Builder_WriteString (call : CallF) (_ : Nat) (t0 : AV) (t1 : Bytes) (h : AHeap) : R :=
 callN (call 34 [t0] h) fun _ h_3 =>
 obind (nilC t0) fun t10 =>
 obind (fldP 1 t10) fun t11 =>
 obind (ldCell h_3 t11) fun v12 =>
 outK (opAppend Pg h_3 50 9 v12 (strA t1)) fun v14 h_9 =>
 obind (nilC t0) fun t15 =>
 obind (fldP 1 t15) fun t16 =>
 obind (stRow h_9 1 (AV.cells v14) t16) fun h_13 =>
 some (.ret (.tup [.int .i64 (lenS t1), AV.nifc]), h_13)
theorem strings_Builder_WriteString_ok {call : CallF} (hc : SaysAll Pg call) {n : Nat} {t0 : AV} {t1 : Bytes} {h : AHeap} {rR : ARes} {hR : AHeap} (z : strings_Builder_WriteString call n t0 t1 h = some (rR, hR)) : Says Pg 37 [t0, strA t1] h rR hR := by
 unfold strings_Builder_WriteString at z
 refine says_of (fn := Tryd.f37) Tryd.func37 (c := codeOf Tryd.f37) (by kernel_rfl) (by kernel_rfl) (fun w0 m0 => ?_)
 refine W.weaken (l' := [(0, t0), (1, strA t1)]) (Fr.c (Fr.c Fr.n)) ?_
 refine W.s (fun _ n1 _ _ _ => ?_)
 refine W.r ?_
 refine WL.a (some 4) (.int .i64 0) h ?_
 refine WL.a (some 5) AV.nifc h ?_
 refine WL.n ?_
 refine Go.weaken (l' := [(0, t0), (1, strA t1)]) (Fr.c (Fr.c Fr.n)) ?_
 refine n1 ?_
 refine W.s (fun _ n2 _ _ _ => ?_)
 refine W.r ?_
 refine WL.a (some 6) t0 h ?_
 replace z := callN_some z; obtain ⟨r7, h_3, e4, z⟩ := z
 refine WL.c (hc.ok w0) (some 7) e4 ?_
 refine WL.n ?_
 refine Go.weaken (l' := [(0, t0), (1, strA t1)]) (Fr.c (Fr.c Fr.n)) ?_
 refine n2 ?_
 refine W.s (fun _ n5 _ _ _ => ?_)
 refine W.r ?_
 refine WL.a (some 8) t0 h_3 ?_
 refine WL.a (some 9) t0 h_3 ?_
 replace z := oS z; obtain ⟨t10, e6, z⟩ := z
 refine WL.b (some 10) t10 h_3 (nil_chk (h := h_3) e6) ?_
 replace z := oS z; obtain ⟨t11, e7, z⟩ := z
 refine WL.b (some 11) t11 h_3 (field_ptr (P := Pg) (h := h_3) (s := 52) (f := 1) (by kernel_rfl) e7) ?_
 replace z := oS z; obtain ⟨v12, e8, z⟩ := z
 refine WL.b (some 12) v12 h_3 (load_cell (P := Pg) (h := h_3) (t := 50) (by kernel_rfl) e8) ?_
 refine WL.a (some 13) (strA t1) h_3 ?_
 replace z := outK_some z; obtain ⟨v14, h_9, e10, z⟩ := z
 refine WL.b (some 14) v14 h_9 e10 ?_
 replace z := oS z; obtain ⟨t15, e11, z⟩ := z
 refine WL.b (some 15) t15 h_9 (nil_chk (h := h_9) e11) ?_
 replace z := oS z; obtain ⟨t16, e12, z⟩ := z
 refine WL.b (some 16) t16 h_9 (field_ptr (P := Pg) (h := h_9) (s := 52) (f := 1) (by kernel_rfl) e12) ?_
 replace z := oS z; obtain ⟨h_13, e14, z⟩ := z
 refine WL.e h_13 (store_row (P := Pg) (h := h_9) (t := 50) (v := v14) (by kernel_rfl) (by kernel_rfl) e14) ?_
 refine WL.n ?_
 refine Go.weaken (l' := [(1, strA t1)]) (Fr.c Fr.n) ?_
 refine n5 ?_
 refine W.s (fun _ n15 _ _ _ => ?_)
 refine W.r ?_
 refine WL.a (some 17) (strA t1) h_13 ?_
 refine WL.a (some 18) (.int .i64 (lenS t1)) h_13 ?_
 refine WL.a (some 4) (.int .i64 (lenS t1)) h_13 ?_
 refine WL.a (some 5) AV.nifc h_13 ?_
 refine WL.n ?_
 refine Go.weaken (l' := [(4, .int .i64 (lenS t1)), (5, AV.nifc)]) (Fr.c (Fr.c Fr.n)) ?_
 refine n15 ?_
 refine W.ret (by kernel_rfl) ?_
 obtain ⟨z, hF2⟩ := ret_inj z; subst z; subst hF2
 exact leave_of (rs := [.tmp 4, .tmp 5]) (vs := [.int .i64 (lenS t1), AV.nifc]) (by kernel_rfl) (res_tmp (by kernel_rfl) (res_tmp (by kernel_rfl) res_nil)) (by kernel_rfl)
noncomputable def strings_Builder_WriteString_fn (call : CallF) (n : Nat) : FnT := fun args h => match args with
 | [x0, x1] => obind (avStr x1) fun t1 => strings_Builder_WriteString call n x0 t1 h
 | _ => none
set_option maxRecDepth 100000 in
theorem strings_Builder_WriteString_fn_eq (call : CallF) (n : Nat) (t0 : AV) (t1 : Bytes) (h : AHeap) : strings_Builder_WriteString_fn call n [t0, strA t1] h = strings_Builder_WriteString call n t0 t1 h :=
 (Eq.trans (obind_eq (fun t1 => strings_Builder_WriteString call n t0 t1 h) (avStr_str t1)) rfl)
theorem strings_Builder_WriteString_holds {call : CallF} (hc : SaysAll Pg call) (n : Nat) : Holds Pg 37 (strings_Builder_WriteString_fn call n) := by
 intro args h r h2 e
 unfold strings_Builder_WriteString_fn at e
 split at e
 ·replace e := oS e; obtain ⟨t1, c1, e⟩ := e; have c1 := avStr_some c1; subst c1
  exact strings_Builder_WriteString_ok hc e
 ·cases e
noncomputable def law12_word (call : CallF) (_ : Nat) (t0 : List AV) (h : AHeap) : R :=
 outK (opBox h 37 (some (.agg t0))) fun v1 h_2 =>
 obind (fldP 0 v1) fun t3 =>
 obind (ldCell h_2 t3) fun v4 =>
 obind (avInt .i64 v4) fun t4 =>
 lett ((t4 : Int) == 2) fun (t6 : Bool) =>
 ifB t6
 (
  obind (fldP 1 v1) fun t7 =>
  obind (ldCell h_2 t7) fun v8 =>
  obind (avStr v8) fun t8 =>
  obind (addS t8 ([58] : Bytes)) fun t9 =>
  some (.ret (strA t9), h_2))
 (
  lett ((t4 : Int) == 3) fun (t11 : Bool) =>
  ifB t11
  (
   obind (fldP 2 v1) fun t12 =>
   obind (ldCell h_2 t12) fun v13 =>
   obind (avInt .i64 v13) fun t13 =>
   callK (call 14 [.int .i64 t13] h_2) fun r14 h_23 =>
   obind (avStr r14) fun t14 =>
   some (.ret (strA t14), h_23))
  (
   lett ((t4 : Int) == 4) fun (t16 : Bool) =>
   ifB t16
   (
    obind (fldP 1 v1) fun t17 =>
    obind (ldCell h_2 t17) fun v18 =>
    obind (avStr v18) fun t18 =>
    callN (call 15 [strA t18] h_2) fun r19 h_33 =>
    obind (avStr r19) fun t19 =>
    some (.ret (strA t19), h_33))
   (
    obind (fldP 1 v1) fun t20 =>
    obind (ldCell h_2 t20) fun v21 =>
    obind (avStr v21) fun t21 =>
    some (.ret (strA t21), h_2))))
theorem law12_word_ok {call : CallF} (hc : SaysAll Pg call) {n : Nat} {t0 : List AV} {h : AHeap} {rR : ARes} {hR : AHeap} (z : law12_word call n t0 h = some (rR, hR)) : Says Pg 11 [.agg t0] h rR hR := by
 unfold law12_word at z
 refine says_of (fn := Tryd.f11) Tryd.func11 (c := codeOf Tryd.f11) (by kernel_rfl) (by kernel_rfl) (fun w0 m0 => ?_)
 refine W.weaken (l' := [(0, .agg t0)]) (Fr.c Fr.n) ?_
 refine W.s (fun _ n1 _ _ _ => ?_)
 refine W.r ?_
 replace z := outK_some z; obtain ⟨v1, h_2, e3, z⟩ := z
 refine WL.b (some 1) v1 h_2 e3 ?_
 refine WL.a (some 2) (strA ([] : Bytes)) h_2 ?_
 refine WL.n ?_
 refine Go.weaken (l' := [(1, v1)]) (Fr.c Fr.n) ?_
 refine n1 ?_
 refine W.s (fun _ n4 _ q4 p4 => ?_)
 refine W.s (fun _ n5 _ _ _ => ?_)
 refine W.r ?_
 replace z := oS z; obtain ⟨t3, e6, z⟩ := z
 refine WL.b (some 3) t3 h_2 (field_ptr (P := Pg) (h := h_2) (s := 37) (f := 0) (by kernel_rfl) e6) ?_
 replace z := oS z; obtain ⟨v4, e7, z⟩ := z
 replace z := oS z; obtain ⟨t4, c8, z⟩ := z
 have c8 := avInt_some c8
 subst c8
 refine WL.b (some 4) (.int .i64 t4) h_2 (load_cell (P := Pg) (h := h_2) (t := 3) (by kernel_rfl) e7) ?_
 refine WL.n ?_
 refine Go.weaken (l' := [(1, v1), (4, .int .i64 t4)]) (Fr.c (Fr.c Fr.n)) ?_
 refine n5 ?_
 refine W.blockK (by kernel_rfl) (fun K9 n9 s9 o9 q9 p9 => ?_)
 refine W.s (fun _ n10 _ _ _ => ?_)
 refine W.r ?_
 replace z := lS z; obtain ⟨t6, e11, z⟩ := z
 refine WL.val (d := (some 6)) (v := .bool t6) (h' := h_2) (by kernel_rfl) (by kernel_rfl) (val_of AV.bool e11 (by kernel_rfl)) ?_
 refine WL.a (some 5) (.bool t6) h_2 ?_
 refine WL.n ?_
 refine Go.weaken (l' := [(1, v1), (4, .int .i64 t4), (5, .bool t6)]) (Fr.c (Fr.c (Fr.c Fr.n))) ?_
 refine n10 ?_
 cases t6 with
 | true =>
  replace z := ifB_t z
  refine W.t ?_
  refine W.s (fun _ n12 _ _ _ => ?_)
  refine W.r ?_
  replace z := oS z; obtain ⟨t7, e13, z⟩ := z
  refine WL.b (some 7) t7 h_2 (field_ptr (P := Pg) (h := h_2) (s := 37) (f := 1) (by kernel_rfl) e13) ?_
  replace z := oS z; obtain ⟨v8, e14, z⟩ := z
  replace z := oS z; obtain ⟨t8, c15, z⟩ := z
  have c15 := avStr_some c15
  subst c15
  refine WL.b (some 8) (strA t8) h_2 (load_cell (P := Pg) (h := h_2) (t := 9) (by kernel_rfl) e14) ?_
  replace z := oS z; obtain ⟨t9, e16, z⟩ := z
  refine WL.b (some 9) (strA t9) h_2 (add_str (P := Pg) (h := h_2) (t := 9) (lit := true) e16) ?_
  refine WL.a (some 2) (strA t9) h_2 ?_
  refine WL.n ?_
  refine Go.weaken (l' := [(2, strA t9)]) (Fr.c Fr.n) ?_
  refine n12 ?_
  refine W.ret (by kernel_rfl) ?_
  refine q9 ?_
  refine q4 ?_
  obtain ⟨z, hF2⟩ := ret_inj z; subst z; subst hF2
  exact leave_of (rs := [.tmp 2]) (vs := [strA t9]) (by kernel_rfl) (res_tmp (by kernel_rfl) res_nil) (by kernel_rfl)
 | false =>
  replace z := ifB_f z
  refine W.f ?_
  refine W.s (fun _ n17 _ _ _ => ?_)
  refine W.r ?_
  replace z := lS z; obtain ⟨t11, e18, z⟩ := z
  refine WL.val (d := (some 11)) (v := .bool t11) (h' := h_2) (by kernel_rfl) (by kernel_rfl) (val_of AV.bool e18 (by kernel_rfl)) ?_
  refine WL.a (some 10) (.bool t11) h_2 ?_
  refine WL.n ?_
  refine Go.weaken (l' := [(1, v1), (4, .int .i64 t4), (10, .bool t11)]) (Fr.c (Fr.c (Fr.c Fr.n))) ?_
  refine n17 ?_
  cases t11 with
  | true =>
   replace z := ifB_t z
   refine W.t ?_
   refine W.s (fun _ n19 _ _ p19 => ?_)
   refine W.r ?_
   replace z := oS z; obtain ⟨t12, e20, z⟩ := z
   refine WL.b (some 12) t12 h_2 (field_ptr (P := Pg) (h := h_2) (s := 37) (f := 2) (by kernel_rfl) e20) ?_
   replace z := oS z; obtain ⟨v13, e21, z⟩ := z
   replace z := oS z; obtain ⟨t13, c22, z⟩ := z
   have c22 := avInt_some c22
   subst c22
   refine WL.b (some 13) (.int .i64 t13) h_2 (load_cell (P := Pg) (h := h_2) (t := 3) (by kernel_rfl) e21) ?_
   replace z := callK_some z; rcases z with ⟨r14, h_23, e24, z⟩ | ⟨r14, h_23, e24, q26⟩
   ·replace z := oS z; obtain ⟨t14, c25, z⟩ := z
    have c25 := avStr_some c25
    subst c25
    refine WL.c (hc.ok w0) (some 14) e24 ?_
    refine WL.a (some 2) (strA t14) h_23 ?_
    refine WL.n ?_
    refine Go.weaken (l' := [(2, strA t14)]) (Fr.c Fr.n) ?_
    refine n19 ?_
    refine W.ret (by kernel_rfl) ?_
    refine q9 ?_
    refine q4 ?_
    obtain ⟨z, hF2⟩ := ret_inj z; subst z; subst hF2
    exact leave_of (rs := [.tmp 2]) (vs := [strA t14]) (by kernel_rfl) (res_tmp (by kernel_rfl) res_nil) (by kernel_rfl)
   ·obtain ⟨zq, zr⟩ := pan_inj q26; subst zq; subst zr
    exact WL.callPanic (hc.ok w0) (d := (some 14)) (by kernel_rfl) (by kernel_rfl) (by kernel_rfl) e24 (p19 (p9 (p4 Pan.fin)))
  | false =>
   replace z := ifB_f z
   refine W.f ?_
   refine W.s (fun _ n27 _ _ _ => ?_)
   refine W.r ?_
   replace z := lS z; obtain ⟨t16, e28, z⟩ := z
   refine WL.val (d := (some 16)) (v := .bool t16) (h' := h_2) (by kernel_rfl) (by kernel_rfl) (val_of AV.bool e28 (by kernel_rfl)) ?_
   refine WL.a (some 15) (.bool t16) h_2 ?_
   refine WL.n ?_
   refine Go.weaken (l' := [(1, v1), (15, .bool t16)]) (Fr.c (Fr.c Fr.n)) ?_
   refine n27 ?_
   cases t16 with
   | true =>
    replace z := ifB_t z
    refine W.t ?_
    refine W.s (fun _ n29 _ _ _ => ?_)
    refine W.r ?_
    replace z := oS z; obtain ⟨t17, e30, z⟩ := z
    refine WL.b (some 17) t17 h_2 (field_ptr (P := Pg) (h := h_2) (s := 37) (f := 1) (by kernel_rfl) e30) ?_
    replace z := oS z; obtain ⟨v18, e31, z⟩ := z
    replace z := oS z; obtain ⟨t18, c32, z⟩ := z
    have c32 := avStr_some c32
    subst c32
    refine WL.b (some 18) (strA t18) h_2 (load_cell (P := Pg) (h := h_2) (t := 9) (by kernel_rfl) e31) ?_
    replace z := callN_some z; obtain ⟨r19, h_33, e34, z⟩ := z
    replace z := oS z; obtain ⟨t19, c35, z⟩ := z
    have c35 := avStr_some c35
    subst c35
    refine WL.c (hc.ok w0) (some 19) e34 ?_
    refine WL.a (some 2) (strA t19) h_33 ?_
    refine WL.n ?_
    refine Go.weaken (l' := [(2, strA t19)]) (Fr.c Fr.n) ?_
    refine n29 ?_
    refine W.ret (by kernel_rfl) ?_
    refine q9 ?_
    refine q4 ?_
    obtain ⟨z, hF2⟩ := ret_inj z; subst z; subst hF2
    exact leave_of (rs := [.tmp 2]) (vs := [strA t19]) (by kernel_rfl) (res_tmp (by kernel_rfl) res_nil) (by kernel_rfl)
   | false =>
    replace z := ifB_f z
    refine W.f ?_
    refine W.skip (by kernel_rfl) ?_
    refine n9 ?_
    refine n4 ?_
    refine W.s (fun _ n36 _ _ _ => ?_)
    refine W.r ?_
    replace z := oS z; obtain ⟨t20, e37, z⟩ := z
    refine WL.b (some 20) t20 h_2 (field_ptr (P := Pg) (h := h_2) (s := 37) (f := 1) (by kernel_rfl) e37) ?_
    replace z := oS z; obtain ⟨v21, e38, z⟩ := z
    replace z := oS z; obtain ⟨t21, c39, z⟩ := z
    have c39 := avStr_some c39
    subst c39
    refine WL.b (some 21) (strA t21) h_2 (load_cell (P := Pg) (h := h_2) (t := 9) (by kernel_rfl) e38) ?_
    refine WL.a (some 2) (strA t21) h_2 ?_
    refine WL.n ?_
    refine Go.weaken (l' := [(2, strA t21)]) (Fr.c Fr.n) ?_
    refine n36 ?_
    refine W.ret (by kernel_rfl) ?_
    obtain ⟨z, hF2⟩ := ret_inj z; subst z; subst hF2
    exact leave_of (rs := [.tmp 2]) (vs := [strA t21]) (by kernel_rfl) (res_tmp (by kernel_rfl) res_nil) (by kernel_rfl)
noncomputable def law12_word_fn (call : CallF) (n : Nat) : FnT := fun args h => match args with
 | [x0] => obind (avAgg x0) fun t0 => law12_word call n t0 h
 | _ => none
set_option maxRecDepth 100000 in
theorem law12_word_fn_eq (call : CallF) (n : Nat) (t0 : List AV) (h : AHeap) : law12_word_fn call n [.agg t0] h = law12_word call n t0 h :=
 (Eq.trans (obind_eq (fun t0 => law12_word call n t0 h) (avAgg_agg t0)) rfl)
theorem law12_word_holds {call : CallF} (hc : SaysAll Pg call) (n : Nat) : Holds Pg 11 (law12_word_fn call n) := by
 intro args h r h2 e
 unfold law12_word_fn at e
 split at e
 ·replace e := oS e; obtain ⟨t0, c0, e⟩ := e; have c0 := avAgg_some c0; subst c0
  exact law12_word_ok hc e
 ·cases e
noncomputable def law12_great (_ : CallF) (_ : Nat) (t0 : Bytes) (h : AHeap) : R :=
 lett (decide ((lenS t0) > 65536)) fun (t5 : Bool) =>
 some (.ret (.bool t5), h)
theorem law12_great_ok {call : CallF} (_ : SaysAll Pg call) {n : Nat} {t0 : Bytes} {h : AHeap} {rR : ARes} {hR : AHeap} (z : law12_great call n t0 h = some (rR, hR)) : Says Pg 7 [strA t0] h rR hR := by
 unfold law12_great at z
 refine says_of (fn := Tryd.f7) Tryd.func7 (c := codeOf Tryd.f7) (by kernel_rfl) (by kernel_rfl) (fun w0 m0 => ?_)
 refine W.weaken (l' := [(0, strA t0)]) (Fr.c Fr.n) ?_
 refine W.s (fun _ n1 _ _ _ => ?_)
 refine W.r ?_
 refine WL.a (some 2) (.bool false) h ?_
 refine WL.n ?_
 refine Go.weaken (l' := [(0, strA t0)]) (Fr.c Fr.n) ?_
 refine n1 ?_
 refine W.s (fun _ n2 _ _ _ => ?_)
 refine W.r ?_
 refine WL.a (some 3) (strA t0) h ?_
 refine WL.a (some 4) (.int .i64 (lenS t0)) h ?_
 replace z := lS z; obtain ⟨t5, e3, z⟩ := z
 refine WL.val (d := (some 5)) (v := .bool t5) (h' := h) (by kernel_rfl) (by kernel_rfl) (val_of AV.bool e3 (by kernel_rfl)) ?_
 refine WL.a (some 2) (.bool t5) h ?_
 refine WL.n ?_
 refine Go.weaken (l' := [(2, .bool t5)]) (Fr.c Fr.n) ?_
 refine n2 ?_
 refine W.ret (by kernel_rfl) ?_
 obtain ⟨z, hF2⟩ := ret_inj z; subst z; subst hF2
 exact leave_of (rs := [.tmp 2]) (vs := [.bool t5]) (by kernel_rfl) (res_tmp (by kernel_rfl) res_nil) (by kernel_rfl)
noncomputable def law12_great_fn (call : CallF) (n : Nat) : FnT := fun args h => match args with
 | [x0] => obind (avStr x0) fun t0 => law12_great call n t0 h
 | _ => none
theorem law12_great_holds {call : CallF} (hc : SaysAll Pg call) (n : Nat) : Holds Pg 7 (law12_great_fn call n) := by
 intro args h r h2 e
 unfold law12_great_fn at e
 split at e
 ·replace e := oS e; obtain ⟨t0, c0, e⟩ := e; have c0 := avStr_some c0; subst c0
  exact law12_great_ok hc e
 ·cases e
end Go.Proofs.YtjopejiooipmkaaDoor
