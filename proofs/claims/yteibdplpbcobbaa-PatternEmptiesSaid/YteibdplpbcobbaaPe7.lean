/- What patternEmpties_proved stands on, part 7 of 8. -/
import Derived.Test.YteibdplpbcobbaaPe6
namespace Go.Proofs.Yteibdplpbcobbaa
open Go.RowKit Abs
set_option maxHeartbeats 4000000
set_option maxRecDepth 20000
noncomputable def ref09_Same_L0b (call : CallF) (v2 : AV) (v3 : AV) (k25 : AHeap → R) (self : Int → AHeap → R) (t5 : Int) (h_29 : AHeap) : R :=
 obind (fldP 5 v2) fun t28 =>
 obind (ldCell h_29 t28) fun v29 =>
 obind (lenL v29) fun t30 =>
 lett (decide (t5 < t30)) fun (t31 : Bool) =>
 ifB t31
 (
  obind (fldP 5 v2) fun t34 =>
  obind (ldCell h_29 t34) fun v35 =>
  obind (idxP 6 v35 t5) fun t37 =>
  obind (ldRow h_29 6 t37) fun t38 =>
  obind (fldP 5 v3) fun t39 =>
  obind (ldCell h_29 t39) fun v40 =>
  obind (idxP 6 v40 t5) fun t42 =>
  obind (ldRow h_29 6 t42) fun t43 =>
  callN (call 23 [.agg t38, .agg t43] h_29) fun r44 h_47 =>
  obind (avBool r44) fun t44 =>
  lett (!t44) fun (t45 : Bool) =>
  ifB t45
  (
   some (.ret (.bool false), h_47))
  (
   lett (IntKind.i64.wrap (t5 + 1)) fun (t33 : Int) =>
   self t33 h_47))
 (
  k25 h_29)
noncomputable def ref09_Same_L0 (call : CallF) (v2 : AV) (v3 : AV) (k25 : AHeap → R) : Nat → Int → AHeap → R := iterR (fun _ _ => none) (ref09_Same_L0b call v2 v3 k25)
theorem ref09_Same_L0_s (call : CallF) (v2 : AV) (v3 : AV) (k25 : AHeap → R) (m : Nat) : ref09_Same_L0 call v2 v3 k25 (m + 1) = ref09_Same_L0b call v2 v3 k25 (ref09_Same_L0 call v2 v3 k25 m) := rfl
noncomputable def ref09_Same (call : CallF) (n : Nat) (t0 : List AV) (t1 : List AV) (h : AHeap) : R :=
 outK (opBox h 41 (some (.agg t0))) fun v2 h_2 =>
 outK (opBox h_2 41 (some (.agg t1))) fun v3 h_4 =>
 obind (fldP 0 v2) fun t6 =>
 obind (ldCell h_4 t6) fun v7 =>
 obind (avInt .i64 v7) fun t7 =>
 obind (fldP 0 v3) fun t8 =>
 obind (ldCell h_4 t8) fun v9 =>
 obind (avInt .i64 v9) fun t9 =>
 lett ((t7 : Int) != t9) fun (t10 : Bool) =>
 lett (fun (t17 : Bool) (h_15 : AHeap) =>
  lett (fun (t26 : Bool) (h_18 : AHeap) =>
   ifB t26
   (
    some (.ret (.bool false), h_18))
   (
    lett (fun  (h_26 : AHeap) =>
     some (.ret (.bool true), h_26)) fun k25 =>
    ref09_Same_L0 call v2 v3 k25 n 0 h_18)) fun j26 =>
  ifB t17
  (
   j26 true h_15)
  (
   obind (fldP 5 v2) fun t19 =>
   obind (ldCell h_15 t19) fun v20 =>
   obind (lenL v20) fun t21 =>
   obind (fldP 5 v3) fun t22 =>
   obind (ldCell h_15 t22) fun v23 =>
   obind (lenL v23) fun t24 =>
   lett ((t21 : Int) != t24) fun (t25 : Bool) =>
   j26 t25 h_15)) fun j17 =>
 ifB t10
 (
  j17 true h_4)
 (
  obind (fldP 1 v2) fun t12 =>
  obind (ldRow h_4 4 t12) fun t13 =>
  obind (fldP 1 v3) fun t14 =>
  obind (ldRow h_4 4 t14) fun t15 =>
  obind (eqOther Pg 38 (.agg t13) (.agg t15)) fun t16 =>
  lett (!t16) fun (t16_65 : Bool) =>
  j17 t16_65 h_4)
theorem ref09_Same_ok {call : CallF} (hc : SaysAll Pg call) {n : Nat} {t0 : List AV} {t1 : List AV} {h : AHeap} {rR : ARes} {hR : AHeap} (z : ref09_Same call n t0 t1 h = some (rR, hR)) : Says Pg 23 [.agg t0, .agg t1] h rR hR := by
 unfold ref09_Same at z
 refine says_of (fn := Try.f23) Try.func23 (c := codeOf Try.f23) (by kernel_rfl) (by kernel_rfl) (fun w0 m0 => ?_)
 refine W.weaken (l' := [(0, .agg t0), (1, .agg t1)]) (Fr.c (Fr.c Fr.n)) ?_
 refine W.s (fun _ n1 _ _ p1 => ?_)
 refine W.r ?_
 replace z := outK_some z; obtain ⟨v2, h_2, e3, z⟩ := z
 refine WL.b (some 2) v2 h_2 e3 ?_
 replace z := outK_some z; obtain ⟨v3, h_4, e5, z⟩ := z
 refine WL.b (some 3) v3 h_4 e5 ?_
 refine WL.a (some 4) (.bool false) h_4 ?_
 refine WL.n ?_
 refine Go.weaken (l' := [(2, v2), (3, v3)]) (Fr.c (Fr.c Fr.n)) ?_
 refine n1 ?_
 refine W.s (fun _ n6 _ q6 _ => ?_)
 refine W.s (fun K7 n7 _ _ _ => ?_)
 refine W.r ?_
 replace z := oS z; obtain ⟨t6, e8, z⟩ := z
 refine WL.b (some 6) t6 h_4 (field_ptr (P := Pg) (h := h_4) (s := 41) (f := 0) (by kernel_rfl) e8) ?_
 replace z := oS z; obtain ⟨v7, e9, z⟩ := z
 replace z := oS z; obtain ⟨t7, c10, z⟩ := z
 have c10 := avInt_some c10
 subst c10
 refine WL.b (some 7) (.int .i64 t7) h_4 (load_cell (P := Pg) (h := h_4) (t := 3) (by kernel_rfl) e9) ?_
 replace z := oS z; obtain ⟨t8, e11, z⟩ := z
 refine WL.b (some 8) t8 h_4 (field_ptr (P := Pg) (h := h_4) (s := 41) (f := 0) (by kernel_rfl) e11) ?_
 replace z := oS z; obtain ⟨v9, e12, z⟩ := z
 replace z := oS z; obtain ⟨t9, c13, z⟩ := z
 have c13 := avInt_some c13
 subst c13
 refine WL.b (some 9) (.int .i64 t9) h_4 (load_cell (P := Pg) (h := h_4) (t := 3) (by kernel_rfl) e12) ?_
 replace z := lS z; obtain ⟨t10, e14, z⟩ := z
 refine WL.val (d := (some 10)) (v := .bool t10) (h' := h_4) (by kernel_rfl) (by kernel_rfl) (val_of AV.bool e14 (by kernel_rfl)) ?_
 refine WL.a (some 11) (.bool t10) h_4 ?_
 replace z := lS z; obtain ⟨j17, e16, z⟩ := z
 have J17 : ∀ (t17 : Bool) (h_15 : AHeap), j17 t17 h_15 = some (rR, hR) → WL Pg w0 m0 (Func.ntmps Try.f23) (Code.ops (Code.p1 (Code.p1 (Code.p2 (codeOf Try.f23))))) 12 K7 [(2, v2), (3, v3), (17, .bool t17)] [] h_15 := by
  intro t17 h_15 z
  rw [e16] at z
  refine WL.a (some 18) (.bool t17) h_15 ?_
  replace z := lS z; obtain ⟨j26, e19, z⟩ := z
  have J20 : ∀ (t26 : Bool) (h_18 : AHeap), j26 t26 h_18 = some (rR, hR) → WL Pg w0 m0 (Func.ntmps Try.f23) (Code.ops (Code.p1 (Code.p1 (Code.p2 (codeOf Try.f23))))) 21 K7 [(2, v2), (3, v3), (26, .bool t26)] [] h_18 := by
   intro t26 h_18 z
   rw [e19] at z
   refine WL.n ?_
   refine Go.weaken (l' := [(2, v2), (3, v3), (26, .bool t26)]) (Fr.c (Fr.c (Fr.c Fr.n))) ?_
   refine n7 ?_
   cases t26 with
   | true =>
    replace z := ifB_t z
    refine W.t ?_
    refine W.s (fun _ n21 _ _ _ => ?_)
    refine W.r ?_
    refine WL.a (some 4) (.bool false) h_18 ?_
    refine WL.n ?_
    refine Go.weaken (l' := [(4, .bool false)]) (Fr.c Fr.n) ?_
    refine n21 ?_
    refine W.ret (by kernel_rfl) ?_
    refine q6 ?_
    obtain ⟨z, hF2⟩ := ret_inj z; subst z; subst hF2
    exact leave_of (rs := [.tmp 4]) (vs := [.bool false]) (by kernel_rfl) (res_tmp (by kernel_rfl) res_nil) (by kernel_rfl)
   | false =>
    replace z := ifB_f z
    refine W.f ?_
    refine W.skip (by kernel_rfl) ?_
    refine n6 ?_
    refine W.s (fun K22 n22 _ q22 _ => ?_)
    refine W.s (fun _ n23 _ _ _ => ?_)
    refine W.r ?_
    refine WL.a (some 5) (.int .i64 0) h_18 ?_
    refine WL.n ?_
    refine Go.weaken (l' := [(2, v2), (3, v3), (5, .int .i64 0)]) (Fr.c (Fr.c (Fr.c Fr.n))) ?_
    refine n23 ?_
    replace z := lS z; obtain ⟨k25, e25, z⟩ := z
    have J25 : ∀  (h_26 : AHeap), k25 h_26 = some (rR, hR) → Go w0 m0 (Func.ntmps Try.f23) (K22 .normal) [] [] h_26 := by
     intro  h_26 z
     rw [e25] at z
     refine n22 ?_
     refine W.s (fun _ n27 _ _ _ => ?_)
     refine W.r ?_
     refine WL.a (some 4) (.bool true) h_26 ?_
     refine WL.n ?_
     refine Go.weaken (l' := [(4, .bool true)]) (Fr.c Fr.n) ?_
     refine n27 ?_
     refine W.ret (by kernel_rfl) ?_
     obtain ⟨z, hF2⟩ := ret_inj z; subst z; subst hF2
     exact leave_of (rs := [.tmp 4]) (vs := [.bool true]) (by kernel_rfl) (res_tmp (by kernel_rfl) res_nil) (by kernel_rfl)
    refine W.blockK (by kernel_rfl) (fun K24 n24 s24 o24 q24 p24 => ?_)
    refine W.loopK (by kernel_rfl) (fun I28 K28 b28 n28 e28 q28 p28 => ?_)
    have L28 : ∀ (m : Nat) (t5 : Int) (h_29 : AHeap), ref09_Same_L0 call v2 v3 k25 m t5 h_29 = some (rR, hR) → Go w0 m0 (Func.ntmps Try.f23) I28 [(2, v2), (3, v3), (5, .int .i64 t5)] [] h_29 := by
     intro m
     induction m with
     | zero => intro t5 h_29 z; cases z
     | succ m ih28 =>
      intro t5 h_29 z
      rw [ref09_Same_L0_s] at z; unfold ref09_Same_L0b at z
      refine b28 ?_
      refine W.s (fun _ n30 e30 _ _ => ?_)
      refine W.s (fun _ n31 _ _ _ => ?_)
      refine W.r ?_
      refine WL.a (some 27) (.int .i64 t5) h_29 ?_
      replace z := oS z; obtain ⟨t28, e32, z⟩ := z
      refine WL.b (some 28) t28 h_29 (field_ptr (P := Pg) (h := h_29) (s := 41) (f := 2) (by kernel_rfl) e32) ?_
      replace z := oS z; obtain ⟨v29, e33, z⟩ := z
      refine WL.b (some 29) v29 h_29 (load_cell (P := Pg) (h := h_29) (t := 39) (by kernel_rfl) e33) ?_
      replace z := oS z; obtain ⟨t30, e34, z⟩ := z
      refine WL.b (some 30) (.int .i64 t30) h_29 (len_row (P := Pg) (h := h_29) (t := 39) (e' := 41) (by kernel_rfl) e34) ?_
      replace z := lS z; obtain ⟨t31, e35, z⟩ := z
      refine WL.val (d := (some 31)) (v := .bool t31) (h' := h_29) (by kernel_rfl) (by kernel_rfl) (val_of AV.bool e35 (by kernel_rfl)) ?_
      refine WL.n ?_
      refine Go.weaken (l' := [(2, v2), (3, v3), (5, .int .i64 t5), (31, .bool t31)]) (Fr.c (Fr.c (Fr.c (Fr.c Fr.n)))) ?_
      refine n31 ?_
      cases t31 with
      | true =>
       replace z := ifB_t z
       refine W.t ?_
       refine W.skip (by kernel_rfl) ?_
       refine n30 ?_
       refine W.s (fun _ n36 _ q36 _ => ?_)
       refine W.blockK (by kernel_rfl) (fun K37 n37 s37 o37 q37 p37 => ?_)
       refine W.s (fun _ n38 _ _ _ => ?_)
       refine W.draw (by kernel_rfl) (hc.ok w0) (plan := [0, 1, 2, 3, 4, 5, 6, 7, 8, 9, 10, 11]) (by kernel_rfl) (by kernel_rfl) (by kernel_rfl) ?_
       replace z := oS z; obtain ⟨t34, e39, z⟩ := z
       refine WD.b 0 (some 34) t34 h_29 (field_ptr (P := Pg) (h := h_29) (s := 41) (f := 2) (by kernel_rfl) e39) ?_
       replace z := oS z; obtain ⟨v35, e40, z⟩ := z
       refine WD.b 1 (some 35) v35 h_29 (load_cell (P := Pg) (h := h_29) (t := 39) (by kernel_rfl) e40) ?_
       refine WD.a 0 (some 36) (.int .i64 t5) h_29 ?_
       replace z := oS z; obtain ⟨t37, e41, z⟩ := z
       refine WD.b 0 (some 37) t37 h_29 (index_row (P := Pg) (h := h_29) (t := 39) (e' := 41) (k := .i64) (by kernel_rfl) (by kernel_rfl) (by kernel_rfl) e41) ?_
       replace z := oS z; obtain ⟨t38, e42, z⟩ := z
       refine WD.b 1 (some 38) (.agg t38) h_29 (load_row (P := Pg) (h := h_29) (t := 41) (by kernel_rfl) (by kernel_rfl) e42) ?_
       replace z := oS z; obtain ⟨t39, e43, z⟩ := z
       refine WD.b 0 (some 39) t39 h_29 (field_ptr (P := Pg) (h := h_29) (s := 41) (f := 2) (by kernel_rfl) e43) ?_
       replace z := oS z; obtain ⟨v40, e44, z⟩ := z
       refine WD.b 1 (some 40) v40 h_29 (load_cell (P := Pg) (h := h_29) (t := 39) (by kernel_rfl) e44) ?_
       refine WD.a 0 (some 41) (.int .i64 t5) h_29 ?_
       replace z := oS z; obtain ⟨t42, e45, z⟩ := z
       refine WD.b 0 (some 42) t42 h_29 (index_row (P := Pg) (h := h_29) (t := 39) (e' := 41) (k := .i64) (by kernel_rfl) (by kernel_rfl) (by kernel_rfl) e45) ?_
       replace z := oS z; obtain ⟨t43, e46, z⟩ := z
       refine WD.b 1 (some 43) (.agg t43) h_29 (load_row (P := Pg) (h := h_29) (t := 41) (by kernel_rfl) (by kernel_rfl) e46) ?_
       replace z := callN_some z; obtain ⟨r44, h_47, e48, z⟩ := z
       replace z := oS z; obtain ⟨t44, c49, z⟩ := z
       have c49 := avBool_some c49
       subst c49
       refine WD.call (d := (some 44)) (by kernel_rfl) (by kernel_rfl) (by kernel_rfl) e48 (k := 2) (by kernel_rfl) (fun _ => (by kernel_rfl)) (by decide) ?_
       replace z := lS z; obtain ⟨t45, e50, z⟩ := z
       refine WD.val (d := (some 45)) (v := .bool t45) (h' := h_47) (by kernel_rfl) (by kernel_rfl) (val_of AV.bool e50 (by kernel_rfl)) (k := 0) (by kernel_rfl) (fun e => absurd e (by decide)) (by decide) ?_
       refine WD.nil ?_
       refine Go.weaken (l' := [(2, v2), (3, v3), (5, .int .i64 t5), (45, .bool t45)]) (Fr.c (Fr.c (Fr.c (Fr.c Fr.n)))) ?_
       refine n38 ?_
       cases t45 with
       | true =>
        replace z := ifB_t z
        refine W.t ?_
        refine W.s (fun _ n51 _ _ _ => ?_)
        refine W.r ?_
        refine WL.a (some 4) (.bool false) h_47 ?_
        refine WL.n ?_
        refine Go.weaken (l' := [(4, .bool false)]) (Fr.c Fr.n) ?_
        refine n51 ?_
        refine W.ret (by kernel_rfl) ?_
        refine q37 ?_
        refine q36 ?_
        refine q28 ?_
        refine q24 ?_
        refine q22 ?_
        obtain ⟨z, hF2⟩ := ret_inj z; subst z; subst hF2
        exact leave_of (rs := [.tmp 4]) (vs := [.bool false]) (by kernel_rfl) (res_tmp (by kernel_rfl) res_nil) (by kernel_rfl)
       | false =>
        replace z := ifB_f z
        refine W.f ?_
        refine W.skip (by kernel_rfl) ?_
        refine n37 ?_
        refine n36 ?_
        refine W.r ?_
        refine WL.a (some 32) (.int .i64 t5) h_47 ?_
        replace z := lS z; obtain ⟨t33, e52, z⟩ := z
        refine WL.val (d := (some 33)) (v := .int .i64 t33) (h' := h_47) (by kernel_rfl) (by kernel_rfl) (val_of (AV.int .i64) e52 (by kernel_rfl)) ?_
        refine WL.a (some 5) (.int .i64 t33) h_47 ?_
        refine WL.n ?_
        refine Go.weaken (l' := [(2, v2), (3, v3), (5, .int .i64 t33)]) (Fr.c (Fr.c (Fr.c Fr.n))) ?_
        refine n28 ?_
        exact Go.weaken (Fr.c (Fr.c (Fr.c Fr.n))) (ih28 _ _ z)
      | false =>
       replace z := ifB_f z
       refine W.f ?_
       refine W.exit (by kernel_rfl) ?_
       refine e30 ?_
       refine e28 ?_
       refine s24 (by kernel_rfl) ?_
       exact Go.weaken Fr.n (J25 _ z)
    exact Go.weaken (Fr.c (Fr.c (Fr.c Fr.n))) (L28 _ _ _ z)
  cases t17 with
  | true =>
   replace z := ifB_t z
   refine WL.o (some 19) ?_
   refine WL.o (some 20) ?_
   refine WL.o (some 21) ?_
   refine WL.o (some 22) ?_
   refine WL.o (some 23) ?_
   refine WL.o (some 24) ?_
   refine WL.o (some 25) ?_
   refine WL.a (some 26) (.bool true) h_15 ?_
   exact WL.weaken (Fr.c (Fr.c (Fr.c Fr.n))) (J20 _ _ z)
  | false =>
   replace z := ifB_f z
   replace z := oS z; obtain ⟨t19, e53, z⟩ := z
   refine WL.b (some 19) t19 h_15 (field_ptr (P := Pg) (h := h_15) (s := 41) (f := 2) (by kernel_rfl) e53) ?_
   replace z := oS z; obtain ⟨v20, e54, z⟩ := z
   refine WL.b (some 20) v20 h_15 (load_cell (P := Pg) (h := h_15) (t := 39) (by kernel_rfl) e54) ?_
   replace z := oS z; obtain ⟨t21, e55, z⟩ := z
   refine WL.b (some 21) (.int .i64 t21) h_15 (len_row (P := Pg) (h := h_15) (t := 39) (e' := 41) (by kernel_rfl) e55) ?_
   replace z := oS z; obtain ⟨t22, e56, z⟩ := z
   refine WL.b (some 22) t22 h_15 (field_ptr (P := Pg) (h := h_15) (s := 41) (f := 2) (by kernel_rfl) e56) ?_
   replace z := oS z; obtain ⟨v23, e57, z⟩ := z
   refine WL.b (some 23) v23 h_15 (load_cell (P := Pg) (h := h_15) (t := 39) (by kernel_rfl) e57) ?_
   replace z := oS z; obtain ⟨t24, e58, z⟩ := z
   refine WL.b (some 24) (.int .i64 t24) h_15 (len_row (P := Pg) (h := h_15) (t := 39) (e' := 41) (by kernel_rfl) e58) ?_
   replace z := lS z; obtain ⟨t25, e59, z⟩ := z
   refine WL.val (d := (some 25)) (v := .bool t25) (h' := h_15) (by kernel_rfl) (by kernel_rfl) (val_of AV.bool e59 (by kernel_rfl)) ?_
   refine WL.a (some 26) (.bool t25) h_15 ?_
   exact WL.weaken (Fr.c (Fr.c (Fr.c Fr.n))) (J20 _ _ z)
 cases t10 with
 | true =>
  replace z := ifB_t z
  refine WL.o (some 12) ?_
  refine WL.o (some 13) ?_
  refine WL.o (some 14) ?_
  refine WL.o (some 15) ?_
  refine WL.o (some 16) ?_
  refine WL.a (some 17) (.bool true) h_4 ?_
  exact WL.weaken (Fr.c (Fr.c (Fr.c Fr.n))) (J17 _ _ z)
 | false =>
  replace z := ifB_f z
  replace z := oS z; obtain ⟨t12, e60, z⟩ := z
  refine WL.b (some 12) t12 h_4 (field_ptr (P := Pg) (h := h_4) (s := 41) (f := 1) (by kernel_rfl) e60) ?_
  replace z := oS z; obtain ⟨t13, e61, z⟩ := z
  refine WL.b (some 13) (.agg t13) h_4 (load_row (P := Pg) (h := h_4) (t := 38) (by kernel_rfl) (by kernel_rfl) e61) ?_
  replace z := oS z; obtain ⟨t14, e62, z⟩ := z
  refine WL.b (some 14) t14 h_4 (field_ptr (P := Pg) (h := h_4) (s := 41) (f := 1) (by kernel_rfl) e62) ?_
  replace z := oS z; obtain ⟨t15, e63, z⟩ := z
  refine WL.b (some 15) (.agg t15) h_4 (load_row (P := Pg) (h := h_4) (t := 38) (by kernel_rfl) (by kernel_rfl) e63) ?_
  replace z := oS z; obtain ⟨t16, e64, z⟩ := z
  replace z := lS z; obtain ⟨t16_65, e66, z⟩ := z
  refine WL.val (d := (some 16)) (v := .bool t16_65) (h' := h_4) (by kernel_rfl) (by kernel_rfl) (val_of AV.bool e66 (Eq.trans (by kernel_rfl) (neq_other (P := Pg) (h := h_4) (t := 38) (lit := false) (by kernel_rfl) e64))) ?_
  refine WL.a (some 17) (.bool t16_65) h_4 ?_
  exact WL.weaken (Fr.c (Fr.c (Fr.c Fr.n))) (J17 _ _ z)
noncomputable def ref09_Same_fn (call : CallF) (n : Nat) : FnT := fun args h => match args with
 | [x0, x1] => obind (avAgg x0) fun t0 => obind (avAgg x1) fun t1 => ref09_Same call n t0 t1 h
 | _ => none
theorem ref09_Same_holds {call : CallF} (hc : SaysAll Pg call) (n : Nat) : Holds Pg 23 (ref09_Same_fn call n) := by
 intro args h r h2 e
 unfold ref09_Same_fn at e
 split at e
 ·replace e := oS e; obtain ⟨t0, c0, e⟩ := e; have c0 := avAgg_some c0; subst c0
  replace e := oS e; obtain ⟨t1, c1, e⟩ := e; have c1 := avAgg_some c1; subst c1
  exact ref09_Same_ok hc e
 ·cases e
noncomputable def ref09_Nothing_L1b (call : CallF) (v1 : AV) (k63 : Bool → AHeap → R) (self : Bool → Int → AHeap → R) (t5_67 : Bool) (t6 : Int) (h_68 : AHeap) : R :=
 obind (fldP 5 v1) fun t42 =>
 obind (ldCell h_68 t42) fun v43 =>
 obind (lenL v43) fun t44 =>
 lett (decide (t6 < t44)) fun (t45 : Bool) =>
 ifB t45
 (
  lett (fun (t56 : Bool) (h_77 : AHeap) =>
   lett (IntKind.i64.wrap (t6 + 1)) fun (t47 : Int) =>
   self t56 t47 h_77) fun j56 =>
  ifB t5_67
  (
   j56 true h_68)
  (
   obind (fldP 5 v1) fun t50 =>
   obind (ldCell h_68 t50) fun v51 =>
   obind (idxP 6 v51 t6) fun t53 =>
   obind (ldRow h_68 6 t53) fun t54 =>
   callN (call 48 [.agg t54] h_68) fun r55 h_85 =>
   obind (avBool r55) fun t55 =>
   j56 t55 h_85))
 (
  k63 t5_67 h_68)
noncomputable def ref09_Nothing_L1 (call : CallF) (v1 : AV) (k63 : Bool → AHeap → R) : Nat → Bool → Int → AHeap → R := iterR (fun _ _ _ => none) (ref09_Nothing_L1b call v1 k63)
theorem ref09_Nothing_L1_s (call : CallF) (v1 : AV) (k63 : Bool → AHeap → R) (m : Nat) : ref09_Nothing_L1 call v1 k63 (m + 1) = ref09_Nothing_L1b call v1 k63 (ref09_Nothing_L1 call v1 k63 m) := rfl
noncomputable def ref09_Nothing_L0b (call : CallF) (v1 : AV) (k32 : Bool → AHeap → R) (self : Bool → Int → AHeap → R) (t3_36 : Bool) (t4 : Int) (h_37 : AHeap) : R :=
 obind (fldP 5 v1) fun t23 =>
 obind (ldCell h_37 t23) fun v24 =>
 obind (lenL v24) fun t25 =>
 lett (decide (t4 < t25)) fun (t26 : Bool) =>
 ifB t26
 (
  lett (fun (t37 : Bool) (h_46 : AHeap) =>
   lett (IntKind.i64.wrap (t4 + 1)) fun (t28 : Int) =>
   self t37 t28 h_46) fun j37 =>
  ifB t3_36
  (
   obind (fldP 5 v1) fun t31 =>
   obind (ldCell h_37 t31) fun v32 =>
   obind (idxP 6 v32 t4) fun t34 =>
   obind (ldRow h_37 6 t34) fun t35 =>
   callN (call 48 [.agg t35] h_37) fun r36 h_54 =>
   obind (avBool r36) fun t36 =>
   j37 t36 h_54)
  (
   j37 false h_37))
 (
  k32 t3_36 h_37)
noncomputable def ref09_Nothing_L0 (call : CallF) (v1 : AV) (k32 : Bool → AHeap → R) : Nat → Bool → Int → AHeap → R := iterR (fun _ _ _ => none) (ref09_Nothing_L0b call v1 k32)
theorem ref09_Nothing_L0_s (call : CallF) (v1 : AV) (k32 : Bool → AHeap → R) (m : Nat) : ref09_Nothing_L0 call v1 k32 (m + 1) = ref09_Nothing_L0b call v1 k32 (ref09_Nothing_L0 call v1 k32 m) := rfl
noncomputable def ref09_Nothing (call : CallF) (n : Nat) (t0 : List AV) (h : AHeap) : R :=
 outK (opBox h 41 (some (.agg t0))) fun v1 h_2 =>
 obind (fldP 0 v1) fun t7 =>
 obind (ldCell h_2 t7) fun v8 =>
 obind (avInt .i64 v8) fun t8 =>
 lett ((t8 : Int) == 1) fun (t10 : Bool) =>
 lett (fun (t9 : Bool) (h_14 : AHeap) =>
  ifB t9
  (
   some (.ret (.bool true), h_14))
  (
   lett ((t8 : Int) == 6) fun (t14 : Bool) =>
   ifB t14
   (
    obind (fldP 5 v1) fun t15 =>
    obind (ldCell h_14 t15) fun v16 =>
    obind (idxP 6 v16 0) fun t17 =>
    obind (ldRow h_14 6 t17) fun t18 =>
    callN (call 48 [.agg t18] h_14) fun r19 h_23 =>
    obind (avBool r19) fun t19 =>
    some (.ret (.bool t19), h_23))
   (
    lett ((t8 : Int) == 3) fun (t21 : Bool) =>
    ifB t21
    (
     lett (fun (t3 : Bool) (h_33 : AHeap) =>
      some (.ret (.bool t3), h_33)) fun k32 =>
     ref09_Nothing_L0 call v1 k32 n true 0 h_14)
    (
     lett ((t8 : Int) == 4) fun (t40 : Bool) =>
     ifB t40
     (
      lett (fun (t5 : Bool) (h_64 : AHeap) =>
       some (.ret (.bool t5), h_64)) fun k63 =>
      ref09_Nothing_L1 call v1 k63 n false 0 h_14)
     (
      some (.ret (.bool false), h_14)))))) fun k13 =>
 ifB t10
 (
  k13 true h_2)
 (
  lett ((t8 : Int) == 5) fun (t11 : Bool) =>
  lett (fun (t9_92 : Bool) (h_93 : AHeap) =>
   k13 t9_92 h_93) fun k91 =>
  ifB t11
  (
   k91 true h_2)
  (
   lett ((t8 : Int) == 7) fun (t12 : Bool) =>
   k91 t12 h_2))
theorem ref09_Nothing_ok {call : CallF} (hc : SaysAll Pg call) {n : Nat} {t0 : List AV} {h : AHeap} {rR : ARes} {hR : AHeap} (z : ref09_Nothing call n t0 h = some (rR, hR)) : Says Pg 48 [.agg t0] h rR hR := by
 unfold ref09_Nothing at z
 refine says_of (fn := Try.f48) Try.func48 (c := codeOf Try.f48) (by kernel_rfl) (by kernel_rfl) (fun w0 m0 => ?_)
 refine W.weaken (l' := [(0, .agg t0)]) (Fr.c Fr.n) ?_
 refine W.s (fun _ n1 _ _ p1 => ?_)
 refine W.r ?_
 replace z := outK_some z; obtain ⟨v1, h_2, e3, z⟩ := z
 refine WL.b (some 1) v1 h_2 e3 ?_
 refine WL.a (some 2) (.bool false) h_2 ?_
 refine WL.n ?_
 refine Go.weaken (l' := [(1, v1)]) (Fr.c Fr.n) ?_
 refine n1 ?_
 refine W.s (fun _ n4 _ q4 _ => ?_)
 refine W.s (fun _ n5 _ _ _ => ?_)
 refine W.r ?_
 replace z := oS z; obtain ⟨t7, e6, z⟩ := z
 refine WL.b (some 7) t7 h_2 (field_ptr (P := Pg) (h := h_2) (s := 41) (f := 0) (by kernel_rfl) e6) ?_
 replace z := oS z; obtain ⟨v8, e7, z⟩ := z
 replace z := oS z; obtain ⟨t8, c8, z⟩ := z
 have c8 := avInt_some c8
 subst c8
 refine WL.b (some 8) (.int .i64 t8) h_2 (load_cell (P := Pg) (h := h_2) (t := 3) (by kernel_rfl) e7) ?_
 refine WL.n ?_
 refine Go.weaken (l' := [(1, v1), (8, .int .i64 t8)]) (Fr.c (Fr.c Fr.n)) ?_
 refine n5 ?_
 refine W.blockK (by kernel_rfl) (fun K9 n9 s9 o9 q9 p9 => ?_)
 refine W.s (fun K10 n10 _ _ _ => ?_)
 refine W.s (fun _ n11 _ _ _ => ?_)
 refine W.r ?_
 replace z := lS z; obtain ⟨t10, e12, z⟩ := z
 refine WL.val (d := (some 10)) (v := .bool t10) (h' := h_2) (by kernel_rfl) (by kernel_rfl) (val_of AV.bool e12 (by kernel_rfl)) ?_
 refine WL.a (some 9) (.bool t10) h_2 ?_
 refine WL.n ?_
 refine Go.weaken (l' := [(1, v1), (8, .int .i64 t8), (9, .bool t10)]) (Fr.c (Fr.c (Fr.c Fr.n))) ?_
 refine n11 ?_
 replace z := lS z; obtain ⟨k13, e13, z⟩ := z
 have J13 : ∀ (t9 : Bool) (h_14 : AHeap), k13 t9 h_14 = some (rR, hR) → Go w0 m0 (Func.ntmps Try.f48) (K10 .normal) [(1, v1), (8, .int .i64 t8), (9, .bool t9)] [] h_14 := by
  intro t9 h_14 z
  rw [e13] at z
  refine n10 ?_
  cases t9 with
  | true =>
   replace z := ifB_t z
   refine W.t ?_
   refine W.s (fun _ n15 _ _ _ => ?_)
   refine W.r ?_
   refine WL.a (some 2) (.bool true) h_14 ?_
   refine WL.n ?_
   refine Go.weaken (l' := [(2, .bool true)]) (Fr.c Fr.n) ?_
   refine n15 ?_
   refine W.ret (by kernel_rfl) ?_
   refine q9 ?_
   refine q4 ?_
   obtain ⟨z, hF2⟩ := ret_inj z; subst z; subst hF2
   exact leave_of (rs := [.tmp 2]) (vs := [.bool true]) (by kernel_rfl) (res_tmp (by kernel_rfl) res_nil) (by kernel_rfl)
  | false =>
   replace z := ifB_f z
   refine W.f ?_
   refine W.s (fun _ n16 _ _ _ => ?_)
   refine W.r ?_
   replace z := lS z; obtain ⟨t14, e17, z⟩ := z
   refine WL.val (d := (some 14)) (v := .bool t14) (h' := h_14) (by kernel_rfl) (by kernel_rfl) (val_of AV.bool e17 (by kernel_rfl)) ?_
   refine WL.a (some 13) (.bool t14) h_14 ?_
   refine WL.n ?_
   refine Go.weaken (l' := [(1, v1), (8, .int .i64 t8), (13, .bool t14)]) (Fr.c (Fr.c (Fr.c Fr.n))) ?_
   refine n16 ?_
   cases t14 with
   | true =>
    replace z := ifB_t z
    refine W.t ?_
    refine W.s (fun _ n18 _ _ _ => ?_)
    refine W.r ?_
    replace z := oS z; obtain ⟨t15, e19, z⟩ := z
    refine WL.b (some 15) t15 h_14 (field_ptr (P := Pg) (h := h_14) (s := 41) (f := 2) (by kernel_rfl) e19) ?_
    replace z := oS z; obtain ⟨v16, e20, z⟩ := z
    refine WL.b (some 16) v16 h_14 (load_cell (P := Pg) (h := h_14) (t := 39) (by kernel_rfl) e20) ?_
    replace z := oS z; obtain ⟨t17, e21, z⟩ := z
    refine WL.b (some 17) t17 h_14 (index_row (P := Pg) (h := h_14) (t := 39) (e' := 41) (k := .i64) (by kernel_rfl) (by kernel_rfl) (by kernel_rfl) e21) ?_
    replace z := oS z; obtain ⟨t18, e22, z⟩ := z
    refine WL.b (some 18) (.agg t18) h_14 (load_row (P := Pg) (h := h_14) (t := 41) (by kernel_rfl) (by kernel_rfl) e22) ?_
    replace z := callN_some z; obtain ⟨r19, h_23, e24, z⟩ := z
    replace z := oS z; obtain ⟨t19, c25, z⟩ := z
    have c25 := avBool_some c25
    subst c25
    refine WL.c (hc.ok w0) (some 19) e24 ?_
    refine WL.a (some 2) (.bool t19) h_23 ?_
    refine WL.n ?_
    refine Go.weaken (l' := [(2, .bool t19)]) (Fr.c Fr.n) ?_
    refine n18 ?_
    refine W.ret (by kernel_rfl) ?_
    refine q9 ?_
    refine q4 ?_
    obtain ⟨z, hF2⟩ := ret_inj z; subst z; subst hF2
    exact leave_of (rs := [.tmp 2]) (vs := [.bool t19]) (by kernel_rfl) (res_tmp (by kernel_rfl) res_nil) (by kernel_rfl)
   | false =>
    replace z := ifB_f z
    refine W.f ?_
    refine W.s (fun _ n26 _ _ _ => ?_)
    refine W.r ?_
    replace z := lS z; obtain ⟨t21, e27, z⟩ := z
    refine WL.val (d := (some 21)) (v := .bool t21) (h' := h_14) (by kernel_rfl) (by kernel_rfl) (val_of AV.bool e27 (by kernel_rfl)) ?_
    refine WL.a (some 20) (.bool t21) h_14 ?_
    refine WL.n ?_
    refine Go.weaken (l' := [(1, v1), (8, .int .i64 t8), (20, .bool t21)]) (Fr.c (Fr.c (Fr.c Fr.n))) ?_
    refine n26 ?_
    cases t21 with
    | true =>
     replace z := ifB_t z
     refine W.t ?_
     refine W.s (fun _ n28 _ _ _ => ?_)
     refine W.r ?_
     refine WL.a (some 3) (.bool true) h_14 ?_
     refine WL.n ?_
     refine Go.weaken (l' := [(1, v1), (3, .bool true)]) (Fr.c (Fr.c Fr.n)) ?_
     refine n28 ?_
     refine W.s (fun K29 n29 _ _ _ => ?_)
     refine W.s (fun _ n30 _ _ _ => ?_)
     refine W.r ?_
     refine WL.a (some 4) (.int .i64 0) h_14 ?_
     refine WL.n ?_
     refine Go.weaken (l' := [(1, v1), (3, .bool true), (4, .int .i64 0)]) (Fr.c (Fr.c (Fr.c Fr.n))) ?_
     refine n30 ?_
     replace z := lS z; obtain ⟨k32, e32, z⟩ := z
     have J32 : ∀ (t3 : Bool) (h_33 : AHeap), k32 t3 h_33 = some (rR, hR) → Go w0 m0 (Func.ntmps Try.f48) (K29 .normal) [(3, .bool t3)] [] h_33 := by
      intro t3 h_33 z
      rw [e32] at z
      refine n29 ?_
      refine W.s (fun _ n34 _ _ _ => ?_)
      refine W.r ?_
      refine WL.a (some 38) (.bool t3) h_33 ?_
      refine WL.a (some 2) (.bool t3) h_33 ?_
      refine WL.n ?_
      refine Go.weaken (l' := [(2, .bool t3)]) (Fr.c Fr.n) ?_
      refine n34 ?_
      refine W.ret (by kernel_rfl) ?_
      refine q9 ?_
      refine q4 ?_
      obtain ⟨z, hF2⟩ := ret_inj z; subst z; subst hF2
      exact leave_of (rs := [.tmp 2]) (vs := [.bool t3]) (by kernel_rfl) (res_tmp (by kernel_rfl) res_nil) (by kernel_rfl)
     refine W.blockK (by kernel_rfl) (fun K31 n31 s31 o31 q31 p31 => ?_)
     refine W.loopK (by kernel_rfl) (fun I35 K35 b35 n35 e35 q35 p35 => ?_)
     have L35 : ∀ (m : Nat) (t3_36 : Bool) (t4 : Int) (h_37 : AHeap), ref09_Nothing_L0 call v1 k32 m t3_36 t4 h_37 = some (rR, hR) → Go w0 m0 (Func.ntmps Try.f48) I35 [(1, v1), (3, .bool t3_36), (4, .int .i64 t4)] [] h_37 := by
      intro m
      induction m with
      | zero => intro t3_36 t4 h_37 z; cases z
      | succ m ih35 =>
       intro t3_36 t4 h_37 z
       rw [ref09_Nothing_L0_s] at z; unfold ref09_Nothing_L0b at z
       refine b35 ?_
       refine W.s (fun _ n38 e38 _ _ => ?_)
       refine W.s (fun _ n39 _ _ _ => ?_)
       refine W.r ?_
       refine WL.a (some 22) (.int .i64 t4) h_37 ?_
       replace z := oS z; obtain ⟨t23, e40, z⟩ := z
       refine WL.b (some 23) t23 h_37 (field_ptr (P := Pg) (h := h_37) (s := 41) (f := 2) (by kernel_rfl) e40) ?_
       replace z := oS z; obtain ⟨v24, e41, z⟩ := z
       refine WL.b (some 24) v24 h_37 (load_cell (P := Pg) (h := h_37) (t := 39) (by kernel_rfl) e41) ?_
       replace z := oS z; obtain ⟨t25, e42, z⟩ := z
       refine WL.b (some 25) (.int .i64 t25) h_37 (len_row (P := Pg) (h := h_37) (t := 39) (e' := 41) (by kernel_rfl) e42) ?_
       replace z := lS z; obtain ⟨t26, e43, z⟩ := z
       refine WL.val (d := (some 26)) (v := .bool t26) (h' := h_37) (by kernel_rfl) (by kernel_rfl) (val_of AV.bool e43 (by kernel_rfl)) ?_
       refine WL.n ?_
       refine Go.weaken (l' := [(1, v1), (3, .bool t3_36), (4, .int .i64 t4), (26, .bool t26)]) (Fr.c (Fr.c (Fr.c (Fr.c Fr.n)))) ?_
       refine n39 ?_
       cases t26 with
       | true =>
        replace z := ifB_t z
        refine W.t ?_
        refine W.skip (by kernel_rfl) ?_
        refine n38 ?_
        refine W.s (fun _ n44 _ _ _ => ?_)
        refine W.blockK (by kernel_rfl) (fun K45 n45 s45 o45 q45 p45 => ?_)
        refine W.r ?_
        refine WL.a (some 29) (.bool t3_36) h_37 ?_
        refine WL.a (some 30) (.bool t3_36) h_37 ?_
        replace z := lS z; obtain ⟨j37, e47, z⟩ := z
        have J48 : ∀ (t37 : Bool) (h_46 : AHeap), j37 t37 h_46 = some (rR, hR) → WL Pg w0 m0 (Func.ntmps Try.f48) (Code.ops (Code.p1 (Code.p1 (Code.p2 (Code.p1 (Code.p1 (Code.p2 (Code.p1 (Code.p2 (Code.p1 (Code.p2 (Code.p2 (Code.p2 (Code.p2 (Code.p2 (Code.p1 (Code.p2 (Code.p1 (Code.p2 (codeOf Try.f48)))))))))))))))))))) 9 K45 [(1, v1), (4, .int .i64 t4), (37, .bool t37)] [] h_46 := by
         intro t37 h_46 z
         rw [e47] at z
         refine WL.a (some 3) (.bool t37) h_46 ?_
         refine WL.n ?_
         refine Go.weaken (l' := [(1, v1), (3, .bool t37), (4, .int .i64 t4)]) (Fr.c (Fr.c (Fr.c Fr.n))) ?_
         refine n45 ?_
         refine n44 ?_
         refine W.r ?_
         refine WL.a (some 27) (.int .i64 t4) h_46 ?_
         replace z := lS z; obtain ⟨t28, e49, z⟩ := z
         refine WL.val (d := (some 28)) (v := .int .i64 t28) (h' := h_46) (by kernel_rfl) (by kernel_rfl) (val_of (AV.int .i64) e49 (by kernel_rfl)) ?_
         refine WL.a (some 4) (.int .i64 t28) h_46 ?_
         refine WL.n ?_
         refine Go.weaken (l' := [(1, v1), (3, .bool t37), (4, .int .i64 t28)]) (Fr.c (Fr.c (Fr.c Fr.n))) ?_
         refine n35 ?_
         exact Go.weaken (Fr.c (Fr.c (Fr.c Fr.n))) (ih35 _ _ _ z)
        cases t3_36 with
        | true =>
         replace z := ifB_t z
         replace z := oS z; obtain ⟨t31, e50, z⟩ := z
         refine WL.b (some 31) t31 h_37 (field_ptr (P := Pg) (h := h_37) (s := 41) (f := 2) (by kernel_rfl) e50) ?_
         replace z := oS z; obtain ⟨v32, e51, z⟩ := z
         refine WL.b (some 32) v32 h_37 (load_cell (P := Pg) (h := h_37) (t := 39) (by kernel_rfl) e51) ?_
         refine WL.a (some 33) (.int .i64 t4) h_37 ?_
         replace z := oS z; obtain ⟨t34, e52, z⟩ := z
         refine WL.b (some 34) t34 h_37 (index_row (P := Pg) (h := h_37) (t := 39) (e' := 41) (k := .i64) (by kernel_rfl) (by kernel_rfl) (by kernel_rfl) e52) ?_
         replace z := oS z; obtain ⟨t35, e53, z⟩ := z
         refine WL.b (some 35) (.agg t35) h_37 (load_row (P := Pg) (h := h_37) (t := 41) (by kernel_rfl) (by kernel_rfl) e53) ?_
         replace z := callN_some z; obtain ⟨r36, h_54, e55, z⟩ := z
         replace z := oS z; obtain ⟨t36, c56, z⟩ := z
         have c56 := avBool_some c56
         subst c56
         refine WL.c (hc.ok w0) (some 36) e55 ?_
         refine WL.a (some 37) (.bool t36) h_54 ?_
         exact WL.weaken (Fr.c (Fr.c (Fr.c Fr.n))) (J48 _ _ z)
        | false =>
         replace z := ifB_f z
         refine WL.o (some 31) ?_
         refine WL.o (some 32) ?_
         refine WL.o (some 33) ?_
         refine WL.o (some 34) ?_
         refine WL.o (some 35) ?_
         refine WL.o (some 36) ?_
         refine WL.a (some 37) (.bool false) h_37 ?_
         exact WL.weaken (Fr.c (Fr.c (Fr.c Fr.n))) (J48 _ _ z)
       | false =>
        replace z := ifB_f z
        refine W.f ?_
        refine W.exit (by kernel_rfl) ?_
        refine e38 ?_
        refine e35 ?_
        refine s31 (by kernel_rfl) ?_
        exact Go.weaken (Fr.c Fr.n) (J32 _ _ z)
     exact Go.weaken (Fr.c (Fr.c (Fr.c Fr.n))) (L35 _ _ _ _ z)
    | false =>
     replace z := ifB_f z
     refine W.f ?_
     refine W.s (fun _ n57 _ _ _ => ?_)
     refine W.r ?_
     replace z := lS z; obtain ⟨t40, e58, z⟩ := z
     refine WL.val (d := (some 40)) (v := .bool t40) (h' := h_14) (by kernel_rfl) (by kernel_rfl) (val_of AV.bool e58 (by kernel_rfl)) ?_
     refine WL.a (some 39) (.bool t40) h_14 ?_
     refine WL.n ?_
     refine Go.weaken (l' := [(1, v1), (39, .bool t40)]) (Fr.c (Fr.c Fr.n)) ?_
     refine n57 ?_
     cases t40 with
     | true =>
      replace z := ifB_t z
      refine W.t ?_
      refine W.s (fun _ n59 _ _ _ => ?_)
      refine W.r ?_
      refine WL.a (some 5) (.bool false) h_14 ?_
      refine WL.n ?_
      refine Go.weaken (l' := [(1, v1), (5, .bool false)]) (Fr.c (Fr.c Fr.n)) ?_
      refine n59 ?_
      refine W.s (fun K60 n60 _ _ _ => ?_)
      refine W.s (fun _ n61 _ _ _ => ?_)
      refine W.r ?_
      refine WL.a (some 6) (.int .i64 0) h_14 ?_
      refine WL.n ?_
      refine Go.weaken (l' := [(1, v1), (5, .bool false), (6, .int .i64 0)]) (Fr.c (Fr.c (Fr.c Fr.n))) ?_
      refine n61 ?_
      replace z := lS z; obtain ⟨k63, e63, z⟩ := z
      have J63 : ∀ (t5 : Bool) (h_64 : AHeap), k63 t5 h_64 = some (rR, hR) → Go w0 m0 (Func.ntmps Try.f48) (K60 .normal) [(5, .bool t5)] [] h_64 := by
       intro t5 h_64 z
       rw [e63] at z
       refine n60 ?_
       refine W.s (fun _ n65 _ _ _ => ?_)
       refine W.r ?_
       refine WL.a (some 57) (.bool t5) h_64 ?_
       refine WL.a (some 2) (.bool t5) h_64 ?_
       refine WL.n ?_
       refine Go.weaken (l' := [(2, .bool t5)]) (Fr.c Fr.n) ?_
       refine n65 ?_
       refine W.ret (by kernel_rfl) ?_
       refine q9 ?_
       refine q4 ?_
       obtain ⟨z, hF2⟩ := ret_inj z; subst z; subst hF2
       exact leave_of (rs := [.tmp 2]) (vs := [.bool t5]) (by kernel_rfl) (res_tmp (by kernel_rfl) res_nil) (by kernel_rfl)
      refine W.blockK (by kernel_rfl) (fun K62 n62 s62 o62 q62 p62 => ?_)
      refine W.loopK (by kernel_rfl) (fun I66 K66 b66 n66 e66 q66 p66 => ?_)
      have L66 : ∀ (m : Nat) (t5_67 : Bool) (t6 : Int) (h_68 : AHeap), ref09_Nothing_L1 call v1 k63 m t5_67 t6 h_68 = some (rR, hR) → Go w0 m0 (Func.ntmps Try.f48) I66 [(1, v1), (5, .bool t5_67), (6, .int .i64 t6)] [] h_68 := by
       intro m
       induction m with
       | zero => intro t5_67 t6 h_68 z; cases z
       | succ m ih66 =>
        intro t5_67 t6 h_68 z
        rw [ref09_Nothing_L1_s] at z; unfold ref09_Nothing_L1b at z
        refine b66 ?_
        refine W.s (fun _ n69 e69 _ _ => ?_)
        refine W.s (fun _ n70 _ _ _ => ?_)
        refine W.r ?_
        refine WL.a (some 41) (.int .i64 t6) h_68 ?_
        replace z := oS z; obtain ⟨t42, e71, z⟩ := z
        refine WL.b (some 42) t42 h_68 (field_ptr (P := Pg) (h := h_68) (s := 41) (f := 2) (by kernel_rfl) e71) ?_
        replace z := oS z; obtain ⟨v43, e72, z⟩ := z
        refine WL.b (some 43) v43 h_68 (load_cell (P := Pg) (h := h_68) (t := 39) (by kernel_rfl) e72) ?_
        replace z := oS z; obtain ⟨t44, e73, z⟩ := z
        refine WL.b (some 44) (.int .i64 t44) h_68 (len_row (P := Pg) (h := h_68) (t := 39) (e' := 41) (by kernel_rfl) e73) ?_
        replace z := lS z; obtain ⟨t45, e74, z⟩ := z
        refine WL.val (d := (some 45)) (v := .bool t45) (h' := h_68) (by kernel_rfl) (by kernel_rfl) (val_of AV.bool e74 (by kernel_rfl)) ?_
        refine WL.n ?_
        refine Go.weaken (l' := [(1, v1), (5, .bool t5_67), (6, .int .i64 t6), (45, .bool t45)]) (Fr.c (Fr.c (Fr.c (Fr.c Fr.n)))) ?_
        refine n70 ?_
        cases t45 with
        | true =>
         replace z := ifB_t z
         refine W.t ?_
         refine W.skip (by kernel_rfl) ?_
         refine n69 ?_
         refine W.s (fun _ n75 _ _ _ => ?_)
         refine W.blockK (by kernel_rfl) (fun K76 n76 s76 o76 q76 p76 => ?_)
         refine W.r ?_
         refine WL.a (some 48) (.bool t5_67) h_68 ?_
         refine WL.a (some 49) (.bool t5_67) h_68 ?_
         replace z := lS z; obtain ⟨j56, e78, z⟩ := z
         have J79 : ∀ (t56 : Bool) (h_77 : AHeap), j56 t56 h_77 = some (rR, hR) → WL Pg w0 m0 (Func.ntmps Try.f48) (Code.ops (Code.p1 (Code.p1 (Code.p2 (Code.p1 (Code.p1 (Code.p2 (Code.p1 (Code.p2 (Code.p1 (Code.p2 (Code.p2 (Code.p2 (Code.p2 (Code.p2 (Code.p2 (Code.p2 (Code.p1 (Code.p2 (Code.p1 (Code.p2 (codeOf Try.f48)))))))))))))))))))))) 9 K76 [(1, v1), (6, .int .i64 t6), (56, .bool t56)] [] h_77 := by
          intro t56 h_77 z
          rw [e78] at z
          refine WL.a (some 5) (.bool t56) h_77 ?_
          refine WL.n ?_
          refine Go.weaken (l' := [(1, v1), (5, .bool t56), (6, .int .i64 t6)]) (Fr.c (Fr.c (Fr.c Fr.n))) ?_
          refine n76 ?_
          refine n75 ?_
          refine W.r ?_
          refine WL.a (some 46) (.int .i64 t6) h_77 ?_
          replace z := lS z; obtain ⟨t47, e80, z⟩ := z
          refine WL.val (d := (some 47)) (v := .int .i64 t47) (h' := h_77) (by kernel_rfl) (by kernel_rfl) (val_of (AV.int .i64) e80 (by kernel_rfl)) ?_
          refine WL.a (some 6) (.int .i64 t47) h_77 ?_
          refine WL.n ?_
          refine Go.weaken (l' := [(1, v1), (5, .bool t56), (6, .int .i64 t47)]) (Fr.c (Fr.c (Fr.c Fr.n))) ?_
          refine n66 ?_
          exact Go.weaken (Fr.c (Fr.c (Fr.c Fr.n))) (ih66 _ _ _ z)
         cases t5_67 with
         | true =>
          replace z := ifB_t z
          refine WL.o (some 50) ?_
          refine WL.o (some 51) ?_
          refine WL.o (some 52) ?_
          refine WL.o (some 53) ?_
          refine WL.o (some 54) ?_
          refine WL.o (some 55) ?_
          refine WL.a (some 56) (.bool true) h_68 ?_
          exact WL.weaken (Fr.c (Fr.c (Fr.c Fr.n))) (J79 _ _ z)
         | false =>
          replace z := ifB_f z
          replace z := oS z; obtain ⟨t50, e81, z⟩ := z
          refine WL.b (some 50) t50 h_68 (field_ptr (P := Pg) (h := h_68) (s := 41) (f := 2) (by kernel_rfl) e81) ?_
          replace z := oS z; obtain ⟨v51, e82, z⟩ := z
          refine WL.b (some 51) v51 h_68 (load_cell (P := Pg) (h := h_68) (t := 39) (by kernel_rfl) e82) ?_
          refine WL.a (some 52) (.int .i64 t6) h_68 ?_
          replace z := oS z; obtain ⟨t53, e83, z⟩ := z
          refine WL.b (some 53) t53 h_68 (index_row (P := Pg) (h := h_68) (t := 39) (e' := 41) (k := .i64) (by kernel_rfl) (by kernel_rfl) (by kernel_rfl) e83) ?_
          replace z := oS z; obtain ⟨t54, e84, z⟩ := z
          refine WL.b (some 54) (.agg t54) h_68 (load_row (P := Pg) (h := h_68) (t := 41) (by kernel_rfl) (by kernel_rfl) e84) ?_
          replace z := callN_some z; obtain ⟨r55, h_85, e86, z⟩ := z
          replace z := oS z; obtain ⟨t55, c87, z⟩ := z
          have c87 := avBool_some c87
          subst c87
          refine WL.c (hc.ok w0) (some 55) e86 ?_
          refine WL.a (some 56) (.bool t55) h_85 ?_
          exact WL.weaken (Fr.c (Fr.c (Fr.c Fr.n))) (J79 _ _ z)
        | false =>
         replace z := ifB_f z
         refine W.f ?_
         refine W.exit (by kernel_rfl) ?_
         refine e69 ?_
         refine e66 ?_
         refine s62 (by kernel_rfl) ?_
         exact Go.weaken (Fr.c Fr.n) (J63 _ _ z)
      exact Go.weaken (Fr.c (Fr.c (Fr.c Fr.n))) (L66 _ _ _ _ z)
     | false =>
      replace z := ifB_f z
      refine W.f ?_
      refine W.skip (by kernel_rfl) ?_
      refine n9 ?_
      refine n4 ?_
      refine W.s (fun _ n88 _ _ _ => ?_)
      refine W.r ?_
      refine WL.a (some 2) (.bool false) h_14 ?_
      refine WL.n ?_
      refine Go.weaken (l' := [(2, .bool false)]) (Fr.c Fr.n) ?_
      refine n88 ?_
      refine W.ret (by kernel_rfl) ?_
      obtain ⟨z, hF2⟩ := ret_inj z; subst z; subst hF2
      exact leave_of (rs := [.tmp 2]) (vs := [.bool false]) (by kernel_rfl) (res_tmp (by kernel_rfl) res_nil) (by kernel_rfl)
 cases t10 with
 | true =>
  replace z := ifB_t z
  refine W.t ?_
  refine W.skip (by kernel_rfl) ?_
  exact Go.weaken (Fr.c (Fr.c (Fr.c Fr.n))) (J13 _ _ z)
 | false =>
  replace z := ifB_f z
  refine W.f ?_
  refine W.s (fun _ n89 _ _ _ => ?_)
  refine W.r ?_
  replace z := lS z; obtain ⟨t11, e90, z⟩ := z
  refine WL.val (d := (some 11)) (v := .bool t11) (h' := h_2) (by kernel_rfl) (by kernel_rfl) (val_of AV.bool e90 (by kernel_rfl)) ?_
  refine WL.a (some 9) (.bool t11) h_2 ?_
  refine WL.n ?_
  refine Go.weaken (l' := [(1, v1), (8, .int .i64 t8), (9, .bool t11)]) (Fr.c (Fr.c (Fr.c Fr.n))) ?_
  refine n89 ?_
  replace z := lS z; obtain ⟨k91, e91, z⟩ := z
  have J91 : ∀ (t9_92 : Bool) (h_93 : AHeap), k91 t9_92 h_93 = some (rR, hR) → Go w0 m0 (Func.ntmps Try.f48) (K10 .normal) [(1, v1), (8, .int .i64 t8), (9, .bool t9_92)] [] h_93 := by
   intro t9_92 h_93 z
   rw [e91] at z
   exact Go.weaken (Fr.c (Fr.c (Fr.c Fr.n))) (J13 _ _ z)
  cases t11 with
  | true =>
   replace z := ifB_t z
   refine W.t ?_
   refine W.skip (by kernel_rfl) ?_
   exact Go.weaken (Fr.c (Fr.c (Fr.c Fr.n))) (J91 _ _ z)
  | false =>
   replace z := ifB_f z
   refine W.f ?_
   refine W.r ?_
   replace z := lS z; obtain ⟨t12, e94, z⟩ := z
   refine WL.val (d := (some 12)) (v := .bool t12) (h' := h_2) (by kernel_rfl) (by kernel_rfl) (val_of AV.bool e94 (by kernel_rfl)) ?_
   refine WL.a (some 9) (.bool t12) h_2 ?_
   refine WL.n ?_
   refine Go.weaken (l' := [(1, v1), (8, .int .i64 t8), (9, .bool t12)]) (Fr.c (Fr.c (Fr.c Fr.n))) ?_
   exact Go.weaken (Fr.c (Fr.c (Fr.c Fr.n))) (J91 _ _ z)
noncomputable def ref09_Nothing_fn (call : CallF) (n : Nat) : FnT := fun args h => match args with
 | [x0] => obind (avAgg x0) fun t0 => ref09_Nothing call n t0 h
 | _ => none
set_option maxRecDepth 100000 in
theorem ref09_Nothing_fn_eq (call : CallF) (n : Nat) (t0 : List AV) (h : AHeap) : ref09_Nothing_fn call n [.agg t0] h = ref09_Nothing call n t0 h :=
 (Eq.trans (obind_eq (fun t0 => ref09_Nothing call n t0 h) (avAgg_agg t0)) rfl)
theorem ref09_Nothing_holds {call : CallF} (hc : SaysAll Pg call) (n : Nat) : Holds Pg 48 (ref09_Nothing_fn call n) := by
 intro args h r h2 e
 unfold ref09_Nothing_fn at e
 split at e
 ·replace e := oS e; obtain ⟨t0, c0, e⟩ := e; have c0 := avAgg_some c0; subst c0
  exact ref09_Nothing_ok hc e
 ·cases e
noncomputable def ref09_Empty (call : CallF) (_ : Nat) (t0 : List AV) (h : AHeap) : R :=
 outK (opBox h 35 (some (.agg t0))) fun v1 h_2 =>
 obind (ldRow h_2 2 v1) fun t6 =>
 callN (call 22 [.agg t6] h_2) fun r7 h_6 =>
 obind (extT 0 r7) fun v8 =>
 obind (avAgg v8) fun t8 =>
 obind (extT 1 r7) fun v9 =>
 obind (avAgg v9) fun t9 =>
 lett (newH h_6 41 [.int .i64 0, .int .u64 0, .int .u64 0, .int .u64 0, .int .u64 0, .nsl]) fun h_12 =>
 lett (newH h_12 27 [.int .i64 0, .int .i64 0]) fun h_14 =>
 obind (stRow h_14 6 t8 (newP h_6)) fun h_16 =>
 obind (stRow h_16 2 t9 (newP h_12)) fun h_18 =>
 obind (ldCell h_18 (AV.ptr (AHeap.next h_12) 0)) fun v11 =>
 obind (avInt .i64 v11) fun t11 =>
 lett ((t11 : Int) == 0) fun (t12 : Bool) =>
 lett (fun (t16 : Bool) (h_24 : AHeap) =>
  some (.ret (.bool t16), h_24)) fun j16 =>
 ifB t12
 (
  obind (ldRow h_18 6 (newP h_6)) fun t14 =>
  callN (call 48 [.agg t14] h_18) fun r15 h_28 =>
  obind (avBool r15) fun t15 =>
  j16 t15 h_28)
 (
  j16 false h_18)
theorem ref09_Empty_ok {call : CallF} (hc : SaysAll Pg call) {n : Nat} {t0 : List AV} {h : AHeap} {rR : ARes} {hR : AHeap} (z : ref09_Empty call n t0 h = some (rR, hR)) : Says Pg 28 [.agg t0] h rR hR := by
 unfold ref09_Empty at z
 refine says_of (fn := Try.f28) Try.func28 (c := codeOf Try.f28) (by kernel_rfl) (by kernel_rfl) (fun w0 m0 => ?_)
 refine W.weaken (l' := [(0, .agg t0)]) (Fr.c Fr.n) ?_
 refine W.s (fun _ n1 _ _ p1 => ?_)
 refine W.r ?_
 replace z := outK_some z; obtain ⟨v1, h_2, e3, z⟩ := z
 refine WL.b (some 1) v1 h_2 e3 ?_
 refine WL.a (some 2) (.bool false) h_2 ?_
 refine WL.n ?_
 refine Go.weaken (l' := [(1, v1)]) (Fr.c Fr.n) ?_
 refine n1 ?_
 refine W.s (fun _ n4 _ _ _ => ?_)
 refine W.r ?_
 replace z := oS z; obtain ⟨t6, e5, z⟩ := z
 refine WL.b (some 6) (.agg t6) h_2 (load_row (P := Pg) (h := h_2) (t := 35) (by kernel_rfl) (by kernel_rfl) e5) ?_
 replace z := callN_some z; obtain ⟨r7, h_6, e7, z⟩ := z
 refine WL.c (hc.ok w0) (some 7) e7 ?_
 refine WL.a (some 5) r7 h_6 ?_
 replace z := oS z; obtain ⟨v8, e8, z⟩ := z
 replace z := oS z; obtain ⟨t8, c9, z⟩ := z
 have c9 := avAgg_some c9
 subst c9
 refine WL.b (some 8) (.agg t8) h_6 (extract_tup (h := h_6) e8) ?_
 replace z := oS z; obtain ⟨v9, e10, z⟩ := z
 replace z := oS z; obtain ⟨t9, c11, z⟩ := z
 have c11 := avAgg_some c11
 subst c11
 refine WL.b (some 9) (.agg t9) h_6 (extract_tup (h := h_6) e10) ?_
 replace z := lS z; obtain ⟨h_12, e13, z⟩ := z
 refine WL.val (d := (some 3)) (v := (newP h_6)) (h' := h_12) (by kernel_rfl) (by kernel_rfl) (val_ofH e13 (by kernel_rfl)) ?_
 replace z := lS z; obtain ⟨h_14, e15, z⟩ := z
 refine WL.val (d := (some 4)) (v := (newP h_12)) (h' := h_14) (by kernel_rfl) (by kernel_rfl) (val_ofH e15 (by kernel_rfl)) ?_
 replace z := oS z; obtain ⟨h_16, e17, z⟩ := z
 refine WL.e h_16 (store_row (P := Pg) (h := h_14) (t := 41) (v := (.agg t8)) (by kernel_rfl) (by kernel_rfl) e17) ?_
 replace z := oS z; obtain ⟨h_18, e19, z⟩ := z
 refine WL.e h_18 (store_row (P := Pg) (h := h_16) (t := 27) (v := (.agg t9)) (by kernel_rfl) (by kernel_rfl) e19) ?_
 refine WL.n ?_
 refine Go.weaken (l' := [(3, newP h_6), (4, newP h_12)]) (Fr.c (Fr.c Fr.n)) ?_
 refine n4 ?_
 refine W.s (fun K20 n20 _ _ _ => ?_)
 refine W.r ?_
 refine WL.a (some 10) (AV.ptr (AHeap.next h_12) 0) h_18 ?_
 replace z := oS z; obtain ⟨v11, e21, z⟩ := z
 replace z := oS z; obtain ⟨t11, c22, z⟩ := z
 have c22 := avInt_some c22
 subst c22
 refine WL.b (some 11) (.int .i64 t11) h_18 (load_cell (P := Pg) (h := h_18) (t := 25) (by kernel_rfl) e21) ?_
 replace z := lS z; obtain ⟨t12, e23, z⟩ := z
 refine WL.val (d := (some 12)) (v := .bool t12) (h' := h_18) (by kernel_rfl) (by kernel_rfl) (val_of AV.bool e23 (by kernel_rfl)) ?_
 refine WL.a (some 13) (.bool t12) h_18 ?_
 replace z := lS z; obtain ⟨j16, e25, z⟩ := z
 have J26 : ∀ (t16 : Bool) (h_24 : AHeap), j16 t16 h_24 = some (rR, hR) → WL Pg w0 m0 (Func.ntmps Try.f28) (Code.ops (Code.p1 (Code.p2 (Code.p2 (codeOf Try.f28))))) 7 K20 [(16, .bool t16)] [] h_24 := by
  intro t16 h_24 z
  rw [e25] at z
  refine WL.a (some 2) (.bool t16) h_24 ?_
  refine WL.n ?_
  refine Go.weaken (l' := [(2, .bool t16)]) (Fr.c Fr.n) ?_
  refine n20 ?_
  refine W.ret (by kernel_rfl) ?_
  obtain ⟨z, hF2⟩ := ret_inj z; subst z; subst hF2
  exact leave_of (rs := [.tmp 2]) (vs := [.bool t16]) (by kernel_rfl) (res_tmp (by kernel_rfl) res_nil) (by kernel_rfl)
 cases t12 with
 | true =>
  replace z := ifB_t z
  replace z := oS z; obtain ⟨t14, e27, z⟩ := z
  refine WL.b (some 14) (.agg t14) h_18 (load_row (P := Pg) (h := h_18) (t := 41) (by kernel_rfl) (by kernel_rfl) e27) ?_
  replace z := callN_some z; obtain ⟨r15, h_28, e29, z⟩ := z
  replace z := oS z; obtain ⟨t15, c30, z⟩ := z
  have c30 := avBool_some c30
  subst c30
  refine WL.c (hc.ok w0) (some 15) e29 ?_
  refine WL.a (some 16) (.bool t15) h_28 ?_
  exact WL.weaken (Fr.c Fr.n) (J26 _ _ z)
 | false =>
  replace z := ifB_f z
  refine WL.o (some 14) ?_
  refine WL.o (some 15) ?_
  refine WL.a (some 16) (.bool false) h_18 ?_
  exact WL.weaken (Fr.c Fr.n) (J26 _ _ z)
noncomputable def ref09_Empty_fn (call : CallF) (n : Nat) : FnT := fun args h => match args with
 | [x0] => obind (avAgg x0) fun t0 => ref09_Empty call n t0 h
 | _ => none
set_option maxRecDepth 100000 in
theorem ref09_Empty_fn_eq (call : CallF) (n : Nat) (t0 : List AV) (h : AHeap) : ref09_Empty_fn call n [.agg t0] h = ref09_Empty call n t0 h :=
 (Eq.trans (obind_eq (fun t0 => ref09_Empty call n t0 h) (avAgg_agg t0)) rfl)
theorem ref09_Empty_holds {call : CallF} (hc : SaysAll Pg call) (n : Nat) : Holds Pg 28 (ref09_Empty_fn call n) := by
 intro args h r h2 e
 unfold ref09_Empty_fn at e
 split at e
 ·replace e := oS e; obtain ⟨t0, c0, e⟩ := e; have c0 := avAgg_some c0; subst c0
  exact ref09_Empty_ok hc e
 ·cases e
noncomputable def pattern_Empty (call : CallF) (_ : Nat) (t0 : List AV) (h : AHeap) : R :=
 outK (opBox h 35 (some (.agg t0))) fun v1 h_2 =>
 obind (ldRow h_2 2 v1) fun t6 =>
 callN (call 21 [.agg t6] h_2) fun r7 h_6 =>
 obind (extT 0 r7) fun v8 =>
 obind (avAgg v8) fun t8 =>
 obind (extT 1 r7) fun v9 =>
 obind (avAgg v9) fun t9 =>
 lett (newH h_6 41 [.int .i64 0, .int .u64 0, .int .u64 0, .int .u64 0, .int .u64 0, .nsl]) fun h_12 =>
 lett (newH h_12 27 [.int .i64 0, .int .i64 0]) fun h_14 =>
 obind (stRow h_14 6 t8 (newP h_6)) fun h_16 =>
 obind (stRow h_16 2 t9 (newP h_12)) fun h_18 =>
 obind (ldCell h_18 (AV.ptr (AHeap.next h_12) 0)) fun v11 =>
 obind (avInt .i64 v11) fun t11 =>
 lett ((t11 : Int) == 0) fun (t12 : Bool) =>
 lett (fun (t16 : Bool) (h_24 : AHeap) =>
  some (.ret (.bool t16), h_24)) fun j16 =>
 ifB t12
 (
  obind (ldRow h_18 6 (newP h_6)) fun t14 =>
  callN (call 47 [.agg t14] h_18) fun r15 h_28 =>
  obind (avBool r15) fun t15 =>
  j16 t15 h_28)
 (
  j16 false h_18)
theorem pattern_Empty_ok {call : CallF} (hc : SaysAll Pg call) {n : Nat} {t0 : List AV} {h : AHeap} {rR : ARes} {hR : AHeap} (z : pattern_Empty call n t0 h = some (rR, hR)) : Says Pg 27 [.agg t0] h rR hR := by
 unfold pattern_Empty at z
 refine says_of (fn := Try.f27) Try.func27 (c := codeOf Try.f27) (by kernel_rfl) (by kernel_rfl) (fun w0 m0 => ?_)
 refine W.weaken (l' := [(0, .agg t0)]) (Fr.c Fr.n) ?_
 refine W.s (fun _ n1 _ _ p1 => ?_)
 refine W.r ?_
 replace z := outK_some z; obtain ⟨v1, h_2, e3, z⟩ := z
 refine WL.b (some 1) v1 h_2 e3 ?_
 refine WL.a (some 2) (.bool false) h_2 ?_
 refine WL.n ?_
 refine Go.weaken (l' := [(1, v1)]) (Fr.c Fr.n) ?_
 refine n1 ?_
 refine W.s (fun _ n4 _ _ _ => ?_)
 refine W.r ?_
 replace z := oS z; obtain ⟨t6, e5, z⟩ := z
 refine WL.b (some 6) (.agg t6) h_2 (load_row (P := Pg) (h := h_2) (t := 35) (by kernel_rfl) (by kernel_rfl) e5) ?_
 replace z := callN_some z; obtain ⟨r7, h_6, e7, z⟩ := z
 refine WL.c (hc.ok w0) (some 7) e7 ?_
 refine WL.a (some 5) r7 h_6 ?_
 replace z := oS z; obtain ⟨v8, e8, z⟩ := z
 replace z := oS z; obtain ⟨t8, c9, z⟩ := z
 have c9 := avAgg_some c9
 subst c9
 refine WL.b (some 8) (.agg t8) h_6 (extract_tup (h := h_6) e8) ?_
 replace z := oS z; obtain ⟨v9, e10, z⟩ := z
 replace z := oS z; obtain ⟨t9, c11, z⟩ := z
 have c11 := avAgg_some c11
 subst c11
 refine WL.b (some 9) (.agg t9) h_6 (extract_tup (h := h_6) e10) ?_
 replace z := lS z; obtain ⟨h_12, e13, z⟩ := z
 refine WL.val (d := (some 3)) (v := (newP h_6)) (h' := h_12) (by kernel_rfl) (by kernel_rfl) (val_ofH e13 (by kernel_rfl)) ?_
 replace z := lS z; obtain ⟨h_14, e15, z⟩ := z
 refine WL.val (d := (some 4)) (v := (newP h_12)) (h' := h_14) (by kernel_rfl) (by kernel_rfl) (val_ofH e15 (by kernel_rfl)) ?_
 replace z := oS z; obtain ⟨h_16, e17, z⟩ := z
 refine WL.e h_16 (store_row (P := Pg) (h := h_14) (t := 41) (v := (.agg t8)) (by kernel_rfl) (by kernel_rfl) e17) ?_
 replace z := oS z; obtain ⟨h_18, e19, z⟩ := z
 refine WL.e h_18 (store_row (P := Pg) (h := h_16) (t := 27) (v := (.agg t9)) (by kernel_rfl) (by kernel_rfl) e19) ?_
 refine WL.n ?_
 refine Go.weaken (l' := [(3, newP h_6), (4, newP h_12)]) (Fr.c (Fr.c Fr.n)) ?_
 refine n4 ?_
 refine W.s (fun K20 n20 _ _ _ => ?_)
 refine W.r ?_
 refine WL.a (some 10) (AV.ptr (AHeap.next h_12) 0) h_18 ?_
 replace z := oS z; obtain ⟨v11, e21, z⟩ := z
 replace z := oS z; obtain ⟨t11, c22, z⟩ := z
 have c22 := avInt_some c22
 subst c22
 refine WL.b (some 11) (.int .i64 t11) h_18 (load_cell (P := Pg) (h := h_18) (t := 25) (by kernel_rfl) e21) ?_
 replace z := lS z; obtain ⟨t12, e23, z⟩ := z
 refine WL.val (d := (some 12)) (v := .bool t12) (h' := h_18) (by kernel_rfl) (by kernel_rfl) (val_of AV.bool e23 (by kernel_rfl)) ?_
 refine WL.a (some 13) (.bool t12) h_18 ?_
 replace z := lS z; obtain ⟨j16, e25, z⟩ := z
 have J26 : ∀ (t16 : Bool) (h_24 : AHeap), j16 t16 h_24 = some (rR, hR) → WL Pg w0 m0 (Func.ntmps Try.f27) (Code.ops (Code.p1 (Code.p2 (Code.p2 (codeOf Try.f27))))) 7 K20 [(16, .bool t16)] [] h_24 := by
  intro t16 h_24 z
  rw [e25] at z
  refine WL.a (some 2) (.bool t16) h_24 ?_
  refine WL.n ?_
  refine Go.weaken (l' := [(2, .bool t16)]) (Fr.c Fr.n) ?_
  refine n20 ?_
  refine W.ret (by kernel_rfl) ?_
  obtain ⟨z, hF2⟩ := ret_inj z; subst z; subst hF2
  exact leave_of (rs := [.tmp 2]) (vs := [.bool t16]) (by kernel_rfl) (res_tmp (by kernel_rfl) res_nil) (by kernel_rfl)
 cases t12 with
 | true =>
  replace z := ifB_t z
  replace z := oS z; obtain ⟨t14, e27, z⟩ := z
  refine WL.b (some 14) (.agg t14) h_18 (load_row (P := Pg) (h := h_18) (t := 41) (by kernel_rfl) (by kernel_rfl) e27) ?_
  replace z := callN_some z; obtain ⟨r15, h_28, e29, z⟩ := z
  replace z := oS z; obtain ⟨t15, c30, z⟩ := z
  have c30 := avBool_some c30
  subst c30
  refine WL.c (hc.ok w0) (some 15) e29 ?_
  refine WL.a (some 16) (.bool t15) h_28 ?_
  exact WL.weaken (Fr.c Fr.n) (J26 _ _ z)
 | false =>
  replace z := ifB_f z
  refine WL.o (some 14) ?_
  refine WL.o (some 15) ?_
  refine WL.a (some 16) (.bool false) h_18 ?_
  exact WL.weaken (Fr.c Fr.n) (J26 _ _ z)
noncomputable def pattern_Empty_fn (call : CallF) (n : Nat) : FnT := fun args h => match args with
 | [x0] => obind (avAgg x0) fun t0 => pattern_Empty call n t0 h
 | _ => none
set_option maxRecDepth 100000 in
theorem pattern_Empty_fn_eq (call : CallF) (n : Nat) (t0 : List AV) (h : AHeap) : pattern_Empty_fn call n [.agg t0] h = pattern_Empty call n t0 h :=
 (Eq.trans (obind_eq (fun t0 => pattern_Empty call n t0 h) (avAgg_agg t0)) rfl)
theorem pattern_Empty_holds {call : CallF} (hc : SaysAll Pg call) (n : Nat) : Holds Pg 27 (pattern_Empty_fn call n) := by
 intro args h r h2 e
 unfold pattern_Empty_fn at e
 split at e
 ·replace e := oS e; obtain ⟨t0, c0, e⟩ := e; have c0 := avAgg_some c0; subst c0
  exact pattern_Empty_ok hc e
 ·cases e
noncomputable def pattern_empty_L1b (call : CallF) (v30 : AV) (t31 : Int) (k62 : AHeap → R) (self : Int → AHeap → R) (t32 : Int) (h_65 : AHeap) : R :=
 lett (decide (t32 < t31)) fun (t33 : Bool) =>
 ifB t33
 (
  obind (idxP 6 v30 t32) fun t34 =>
  obind (ldRow h_65 6 t34) fun t35 =>
  lett (newH h_65 41 [.int .i64 0, .int .u64 0, .int .u64 0, .int .u64 0, .int .u64 0, .nsl]) fun h_74 =>
  obind (stRow h_74 6 t35 (newP h_65)) fun h_76 =>
  obind (ldRow h_76 6 (newP h_65)) fun t36 =>
  callN (call 47 [.agg t36] h_76) fun r37 h_80 =>
  obind (avBool r37) fun t37 =>
  ifB t37
  (
   some (.ret (.bool true), h_80))
  (
   lett (IntKind.i64.wrap (t32 + 1)) fun (t38 : Int) =>
   self t38 h_80))
 (
  k62 h_65)
noncomputable def pattern_empty_L1 (call : CallF) (v30 : AV) (t31 : Int) (k62 : AHeap → R) : Nat → Int → AHeap → R := iterR (fun _ _ => none) (pattern_empty_L1b call v30 t31 k62)
theorem pattern_empty_L1_s (call : CallF) (v30 : AV) (t31 : Int) (k62 : AHeap → R) (m : Nat) : pattern_empty_L1 call v30 t31 k62 (m + 1) = pattern_empty_L1b call v30 t31 k62 (pattern_empty_L1 call v30 t31 k62 m) := rfl
noncomputable def pattern_empty_L0b (call : CallF) (v17 : AV) (t18 : Int) (k27 : AHeap → R) (self : Int → AHeap → R) (t19 : Int) (h_31 : AHeap) : R :=
 lett (decide (t19 < t18)) fun (t20 : Bool) =>
 ifB t20
 (
  obind (idxP 6 v17 t19) fun t21 =>
  obind (ldRow h_31 6 t21) fun t22 =>
  lett (newH h_31 41 [.int .i64 0, .int .u64 0, .int .u64 0, .int .u64 0, .int .u64 0, .nsl]) fun h_40 =>
  obind (stRow h_40 6 t22 (newP h_31)) fun h_42 =>
  obind (ldRow h_42 6 (newP h_31)) fun t23 =>
  callN (call 47 [.agg t23] h_42) fun r24 h_46 =>
  obind (avBool r24) fun t24 =>
  lett (!t24) fun (t25 : Bool) =>
  ifB t25
  (
   some (.ret (.bool false), h_46))
  (
   lett (IntKind.i64.wrap (t19 + 1)) fun (t26 : Int) =>
   self t26 h_46))
 (
  k27 h_31)
noncomputable def pattern_empty_L0 (call : CallF) (v17 : AV) (t18 : Int) (k27 : AHeap → R) : Nat → Int → AHeap → R := iterR (fun _ _ => none) (pattern_empty_L0b call v17 t18 k27)
theorem pattern_empty_L0_s (call : CallF) (v17 : AV) (t18 : Int) (k27 : AHeap → R) (m : Nat) : pattern_empty_L0 call v17 t18 k27 (m + 1) = pattern_empty_L0b call v17 t18 k27 (pattern_empty_L0 call v17 t18 k27 m) := rfl
noncomputable def pattern_empty (call : CallF) (n : Nat) (t0 : List AV) (h : AHeap) : R :=
 outK (opBox h 41 (some (.agg t0))) fun v1 h_2 =>
 obind (fldP 0 v1) fun t7 =>
 obind (ldCell h_2 t7) fun v8 =>
 obind (avInt .i64 v8) fun t8 =>
 lett ((t8 : Int) == 1) fun (t10 : Bool) =>
 lett (fun (t9 : Bool) (h_14 : AHeap) =>
  ifB t9
  (
   some (.ret (.bool true), h_14))
  (
   lett ((t8 : Int) == 6) fun (t14 : Bool) =>
   lett (fun (t13 : Bool) (h_20 : AHeap) =>
    ifB t13
    (
     obind (fldP 5 v1) fun t16 =>
     obind (ldCell h_20 t16) fun v17 =>
     obind (lenL v17) fun t18 =>
     lett (fun  (h_28 : AHeap) =>
      some (.ret (.bool true), h_28)) fun k27 =>
     pattern_empty_L0 call v17 t18 k27 n 0 h_20)
    (
     lett ((t8 : Int) == 4) fun (t28 : Bool) =>
     lett (fun  (h_55 : AHeap) =>
      some (.ret (.bool false), h_55)) fun k54 =>
     ifB t28
     (
      obind (fldP 5 v1) fun t29 =>
      obind (ldCell h_20 t29) fun v30 =>
      obind (lenL v30) fun t31 =>
      lett (fun  (h_63 : AHeap) =>
       k54 h_63) fun k62 =>
      pattern_empty_L1 call v30 t31 k62 n 0 h_20)
     (
      k54 h_20))) fun k19 =>
   ifB t14
   (
    k19 true h_14)
   (
    lett ((t8 : Int) == 3) fun (t15 : Bool) =>
    k19 t15 h_14))) fun k13 =>
 ifB t10
 (
  k13 true h_2)
 (
  lett ((t8 : Int) == 5) fun (t11 : Bool) =>
  lett (fun (t9_89 : Bool) (h_90 : AHeap) =>
   k13 t9_89 h_90) fun k88 =>
  ifB t11
  (
   k88 true h_2)
  (
   lett ((t8 : Int) == 7) fun (t12 : Bool) =>
   k88 t12 h_2))
theorem pattern_empty_ok {call : CallF} (hc : SaysAll Pg call) {n : Nat} {t0 : List AV} {h : AHeap} {rR : ARes} {hR : AHeap} (z : pattern_empty call n t0 h = some (rR, hR)) : Says Pg 47 [.agg t0] h rR hR := by
 unfold pattern_empty at z
 refine says_of (fn := Try.f47) Try.func47 (c := codeOf Try.f47) (by kernel_rfl) (by kernel_rfl) (fun w0 m0 => ?_)
 refine W.weaken (l' := [(0, .agg t0)]) (Fr.c Fr.n) ?_
 refine W.s (fun _ n1 _ _ _ => ?_)
 refine W.r ?_
 replace z := outK_some z; obtain ⟨v1, h_2, e3, z⟩ := z
 refine WL.b (some 1) v1 h_2 e3 ?_
 refine WL.a (some 2) (.bool false) h_2 ?_
 refine WL.n ?_
 refine Go.weaken (l' := [(1, v1)]) (Fr.c Fr.n) ?_
 refine n1 ?_
 refine W.s (fun _ n4 _ q4 _ => ?_)
 refine W.s (fun _ n5 _ _ _ => ?_)
 refine W.r ?_
 replace z := oS z; obtain ⟨t7, e6, z⟩ := z
 refine WL.b (some 7) t7 h_2 (field_ptr (P := Pg) (h := h_2) (s := 41) (f := 0) (by kernel_rfl) e6) ?_
 replace z := oS z; obtain ⟨v8, e7, z⟩ := z
 replace z := oS z; obtain ⟨t8, c8, z⟩ := z
 have c8 := avInt_some c8
 subst c8
 refine WL.b (some 8) (.int .i64 t8) h_2 (load_cell (P := Pg) (h := h_2) (t := 3) (by kernel_rfl) e7) ?_
 refine WL.n ?_
 refine Go.weaken (l' := [(1, v1), (8, .int .i64 t8)]) (Fr.c (Fr.c Fr.n)) ?_
 refine n5 ?_
 refine W.blockK (by kernel_rfl) (fun K9 n9 s9 o9 q9 p9 => ?_)
 refine W.s (fun K10 n10 _ _ _ => ?_)
 refine W.s (fun _ n11 _ _ _ => ?_)
 refine W.r ?_
 replace z := lS z; obtain ⟨t10, e12, z⟩ := z
 refine WL.val (d := (some 10)) (v := .bool t10) (h' := h_2) (by kernel_rfl) (by kernel_rfl) (val_of AV.bool e12 (by kernel_rfl)) ?_
 refine WL.a (some 9) (.bool t10) h_2 ?_
 refine WL.n ?_
 refine Go.weaken (l' := [(1, v1), (8, .int .i64 t8), (9, .bool t10)]) (Fr.c (Fr.c (Fr.c Fr.n))) ?_
 refine n11 ?_
 replace z := lS z; obtain ⟨k13, e13, z⟩ := z
 have J13 : ∀ (t9 : Bool) (h_14 : AHeap), k13 t9 h_14 = some (rR, hR) → Go w0 m0 (Func.ntmps Try.f47) (K10 .normal) [(1, v1), (8, .int .i64 t8), (9, .bool t9)] [] h_14 := by
  intro t9 h_14 z
  rw [e13] at z
  refine n10 ?_
  cases t9 with
  | true =>
   replace z := ifB_t z
   refine W.t ?_
   refine W.s (fun _ n15 _ _ _ => ?_)
   refine W.r ?_
   refine WL.a (some 2) (.bool true) h_14 ?_
   refine WL.n ?_
   refine Go.weaken (l' := [(2, .bool true)]) (Fr.c Fr.n) ?_
   refine n15 ?_
   refine W.ret (by kernel_rfl) ?_
   refine q9 ?_
   refine q4 ?_
   obtain ⟨z, hF2⟩ := ret_inj z; subst z; subst hF2
   exact leave_of (rs := [.tmp 2]) (vs := [.bool true]) (by kernel_rfl) (res_tmp (by kernel_rfl) res_nil) (by kernel_rfl)
  | false =>
   replace z := ifB_f z
   refine W.f ?_
   refine W.s (fun K16 n16 _ _ _ => ?_)
   refine W.s (fun _ n17 _ _ _ => ?_)
   refine W.r ?_
   replace z := lS z; obtain ⟨t14, e18, z⟩ := z
   refine WL.val (d := (some 14)) (v := .bool t14) (h' := h_14) (by kernel_rfl) (by kernel_rfl) (val_of AV.bool e18 (by kernel_rfl)) ?_
   refine WL.a (some 13) (.bool t14) h_14 ?_
   refine WL.n ?_
   refine Go.weaken (l' := [(1, v1), (8, .int .i64 t8), (13, .bool t14)]) (Fr.c (Fr.c (Fr.c Fr.n))) ?_
   refine n17 ?_
   replace z := lS z; obtain ⟨k19, e19, z⟩ := z
   have J19 : ∀ (t13 : Bool) (h_20 : AHeap), k19 t13 h_20 = some (rR, hR) → Go w0 m0 (Func.ntmps Try.f47) (K16 .normal) [(1, v1), (8, .int .i64 t8), (13, .bool t13)] [] h_20 := by
    intro t13 h_20 z
    rw [e19] at z
    refine n16 ?_
    cases t13 with
    | true =>
     replace z := ifB_t z
     refine W.t ?_
     refine W.s (fun K21 n21 _ q21 _ => ?_)
     refine W.s (fun _ n22 _ _ _ => ?_)
     refine W.r ?_
     replace z := oS z; obtain ⟨t16, e23, z⟩ := z
     refine WL.b (some 16) t16 h_20 (field_ptr (P := Pg) (h := h_20) (s := 41) (f := 2) (by kernel_rfl) e23) ?_
     replace z := oS z; obtain ⟨v17, e24, z⟩ := z
     refine WL.b (some 17) v17 h_20 (load_cell (P := Pg) (h := h_20) (t := 39) (by kernel_rfl) e24) ?_
     replace z := oS z; obtain ⟨t18, e25, z⟩ := z
     refine WL.b (some 18) (.int .i64 t18) h_20 (len_row (P := Pg) (h := h_20) (t := 39) (e' := 41) (by kernel_rfl) e25) ?_
     refine WL.a (some 19) (.int .i64 0) h_20 ?_
     refine WL.n ?_
     refine Go.weaken (l' := [(17, v17), (18, .int .i64 t18), (19, .int .i64 0)]) (Fr.c (Fr.c (Fr.c Fr.n))) ?_
     refine n22 ?_
     replace z := lS z; obtain ⟨k27, e27, z⟩ := z
     have J27 : ∀  (h_28 : AHeap), k27 h_28 = some (rR, hR) → Go w0 m0 (Func.ntmps Try.f47) (K21 .normal) [] [] h_28 := by
      intro  h_28 z
      rw [e27] at z
      refine n21 ?_
      refine W.s (fun _ n29 _ _ _ => ?_)
      refine W.r ?_
      refine WL.a (some 2) (.bool true) h_28 ?_
      refine WL.n ?_
      refine Go.weaken (l' := [(2, .bool true)]) (Fr.c Fr.n) ?_
      refine n29 ?_
      refine W.ret (by kernel_rfl) ?_
      refine q9 ?_
      refine q4 ?_
      obtain ⟨z, hF2⟩ := ret_inj z; subst z; subst hF2
      exact leave_of (rs := [.tmp 2]) (vs := [.bool true]) (by kernel_rfl) (res_tmp (by kernel_rfl) res_nil) (by kernel_rfl)
     refine W.blockK (by kernel_rfl) (fun K26 n26 s26 o26 q26 p26 => ?_)
     refine W.loopK (by kernel_rfl) (fun I30 K30 b30 n30 e30 q30 p30 => ?_)
     have L30 : ∀ (m : Nat) (t19 : Int) (h_31 : AHeap), pattern_empty_L0 call v17 t18 k27 m t19 h_31 = some (rR, hR) → Go w0 m0 (Func.ntmps Try.f47) I30 [(17, v17), (18, .int .i64 t18), (19, .int .i64 t19)] [] h_31 := by
      intro m
      induction m with
      | zero => intro t19 h_31 z; cases z
      | succ m ih30 =>
       intro t19 h_31 z
       rw [pattern_empty_L0_s] at z; unfold pattern_empty_L0b at z
       refine b30 ?_
       refine W.s (fun _ n32 _ _ _ => ?_)
       refine W.r ?_
       replace z := lS z; obtain ⟨t20, e33, z⟩ := z
       refine WL.val (d := (some 20)) (v := .bool t20) (h' := h_31) (by kernel_rfl) (by kernel_rfl) (val_of AV.bool e33 (by kernel_rfl)) ?_
       refine WL.n ?_
       refine Go.weaken (l' := [(17, v17), (18, .int .i64 t18), (19, .int .i64 t19), (20, .bool t20)]) (Fr.c (Fr.c (Fr.c (Fr.c Fr.n)))) ?_
       refine n32 ?_
       refine W.s (fun _ n34 e34 _ _ => ?_)
       cases t20 with
       | true =>
        replace z := ifB_t z
        refine W.t ?_
        refine W.skip (by kernel_rfl) ?_
        refine n34 ?_
        refine W.s (fun _ n35 _ q35 _ => ?_)
        refine W.blockK (by kernel_rfl) (fun K36 n36 s36 o36 q36 p36 => ?_)
        refine W.s (fun _ n37 _ _ _ => ?_)
        refine W.r ?_
        replace z := oS z; obtain ⟨t21, e38, z⟩ := z
        refine WL.b (some 21) t21 h_31 (index_row (P := Pg) (h := h_31) (t := 39) (e' := 41) (k := .i64) (by kernel_rfl) (by kernel_rfl) (by kernel_rfl) e38) ?_
        replace z := oS z; obtain ⟨t22, e39, z⟩ := z
        refine WL.b (some 22) (.agg t22) h_31 (load_row (P := Pg) (h := h_31) (t := 41) (by kernel_rfl) (by kernel_rfl) e39) ?_
        replace z := lS z; obtain ⟨h_40, e41, z⟩ := z
        refine WL.val (d := (some 4)) (v := (newP h_31)) (h' := h_40) (by kernel_rfl) (by kernel_rfl) (val_ofH e41 (by kernel_rfl)) ?_
        replace z := oS z; obtain ⟨h_42, e43, z⟩ := z
        refine WL.e h_42 (store_row (P := Pg) (h := h_40) (t := 41) (v := (.agg t22)) (by kernel_rfl) (by kernel_rfl) e43) ?_
        refine WL.n ?_
        refine Go.weaken (l' := [(4, newP h_31), (17, v17), (18, .int .i64 t18), (19, .int .i64 t19)]) (Fr.c (Fr.c (Fr.c (Fr.c Fr.n)))) ?_
        refine n37 ?_
        refine W.s (fun _ n44 _ _ _ => ?_)
        refine W.r ?_
        replace z := oS z; obtain ⟨t23, e45, z⟩ := z
        refine WL.b (some 23) (.agg t23) h_42 (load_row (P := Pg) (h := h_42) (t := 41) (by kernel_rfl) (by kernel_rfl) e45) ?_
        replace z := callN_some z; obtain ⟨r24, h_46, e47, z⟩ := z
        replace z := oS z; obtain ⟨t24, c48, z⟩ := z
        have c48 := avBool_some c48
        subst c48
        refine WL.c (hc.ok w0) (some 24) e47 ?_
        replace z := lS z; obtain ⟨t25, e49, z⟩ := z
        refine WL.val (d := (some 25)) (v := .bool t25) (h' := h_46) (by kernel_rfl) (by kernel_rfl) (val_of AV.bool e49 (by kernel_rfl)) ?_
        refine WL.n ?_
        refine Go.weaken (l' := [(17, v17), (18, .int .i64 t18), (19, .int .i64 t19), (25, .bool t25)]) (Fr.c (Fr.c (Fr.c (Fr.c Fr.n)))) ?_
        refine n44 ?_
        cases t25 with
        | true =>
         replace z := ifB_t z
         refine W.t ?_
         refine W.s (fun _ n50 _ _ _ => ?_)
         refine W.r ?_
         refine WL.a (some 2) (.bool false) h_46 ?_
         refine WL.n ?_
         refine Go.weaken (l' := [(2, .bool false)]) (Fr.c Fr.n) ?_
         refine n50 ?_
         refine W.ret (by kernel_rfl) ?_
         refine q36 ?_
         refine q35 ?_
         refine q30 ?_
         refine q26 ?_
         refine q21 ?_
         refine q9 ?_
         refine q4 ?_
         obtain ⟨z, hF2⟩ := ret_inj z; subst z; subst hF2
         exact leave_of (rs := [.tmp 2]) (vs := [.bool false]) (by kernel_rfl) (res_tmp (by kernel_rfl) res_nil) (by kernel_rfl)
        | false =>
         replace z := ifB_f z
         refine W.f ?_
         refine W.skip (by kernel_rfl) ?_
         refine n36 ?_
         refine n35 ?_
         refine W.r ?_
         replace z := lS z; obtain ⟨t26, e51, z⟩ := z
         refine WL.val (d := (some 26)) (v := .int .i64 t26) (h' := h_46) (by kernel_rfl) (by kernel_rfl) (val_of (AV.int .i64) e51 (by kernel_rfl)) ?_
         refine WL.a (some 19) (.int .i64 t26) h_46 ?_
         refine WL.n ?_
         refine Go.weaken (l' := [(17, v17), (18, .int .i64 t18), (19, .int .i64 t26)]) (Fr.c (Fr.c (Fr.c Fr.n))) ?_
         refine n30 ?_
         exact Go.weaken (Fr.c (Fr.c (Fr.c Fr.n))) (ih30 _ _ z)
       | false =>
        replace z := ifB_f z
        refine W.f ?_
        refine W.exit (by kernel_rfl) ?_
        refine e34 ?_
        refine e30 ?_
        refine s26 (by kernel_rfl) ?_
        exact Go.weaken Fr.n (J27 _ z)
     exact Go.weaken (Fr.c (Fr.c (Fr.c Fr.n))) (L30 _ _ _ z)
    | false =>
     replace z := ifB_f z
     refine W.f ?_
     refine W.s (fun _ n52 _ _ _ => ?_)
     refine W.r ?_
     replace z := lS z; obtain ⟨t28, e53, z⟩ := z
     refine WL.val (d := (some 28)) (v := .bool t28) (h' := h_20) (by kernel_rfl) (by kernel_rfl) (val_of AV.bool e53 (by kernel_rfl)) ?_
     refine WL.a (some 27) (.bool t28) h_20 ?_
     refine WL.n ?_
     refine Go.weaken (l' := [(1, v1), (27, .bool t28)]) (Fr.c (Fr.c Fr.n)) ?_
     refine n52 ?_
     replace z := lS z; obtain ⟨k54, e54, z⟩ := z
     have J54 : ∀  (h_55 : AHeap), k54 h_55 = some (rR, hR) → Go w0 m0 (Func.ntmps Try.f47) (K9 .normal) [] [] h_55 := by
      intro  h_55 z
      rw [e54] at z
      refine n9 ?_
      refine n4 ?_
      refine W.s (fun _ n56 _ _ _ => ?_)
      refine W.r ?_
      refine WL.a (some 2) (.bool false) h_55 ?_
      refine WL.n ?_
      refine Go.weaken (l' := [(2, .bool false)]) (Fr.c Fr.n) ?_
      refine n56 ?_
      refine W.ret (by kernel_rfl) ?_
      obtain ⟨z, hF2⟩ := ret_inj z; subst z; subst hF2
      exact leave_of (rs := [.tmp 2]) (vs := [.bool false]) (by kernel_rfl) (res_tmp (by kernel_rfl) res_nil) (by kernel_rfl)
     cases t28 with
     | true =>
      replace z := ifB_t z
      refine W.t ?_
      refine W.s (fun _ n57 _ _ _ => ?_)
      refine W.r ?_
      replace z := oS z; obtain ⟨t29, e58, z⟩ := z
      refine WL.b (some 29) t29 h_20 (field_ptr (P := Pg) (h := h_20) (s := 41) (f := 2) (by kernel_rfl) e58) ?_
      replace z := oS z; obtain ⟨v30, e59, z⟩ := z
      refine WL.b (some 30) v30 h_20 (load_cell (P := Pg) (h := h_20) (t := 39) (by kernel_rfl) e59) ?_
      replace z := oS z; obtain ⟨t31, e60, z⟩ := z
      refine WL.b (some 31) (.int .i64 t31) h_20 (len_row (P := Pg) (h := h_20) (t := 39) (e' := 41) (by kernel_rfl) e60) ?_
      refine WL.a (some 32) (.int .i64 0) h_20 ?_
      refine WL.n ?_
      refine Go.weaken (l' := [(30, v30), (31, .int .i64 t31), (32, .int .i64 0)]) (Fr.c (Fr.c (Fr.c Fr.n))) ?_
      refine n57 ?_
      replace z := lS z; obtain ⟨k62, e62, z⟩ := z
      have J62 : ∀  (h_63 : AHeap), k62 h_63 = some (rR, hR) → Go w0 m0 (Func.ntmps Try.f47) (K9 .normal) [] [] h_63 := by
       intro  h_63 z
       rw [e62] at z
       exact Go.weaken Fr.n (J54 _ z)
      refine W.blockK (by kernel_rfl) (fun K61 n61 s61 o61 q61 p61 => ?_)
      refine W.loopK (by kernel_rfl) (fun I64 K64 b64 n64 e64 q64 p64 => ?_)
      have L64 : ∀ (m : Nat) (t32 : Int) (h_65 : AHeap), pattern_empty_L1 call v30 t31 k62 m t32 h_65 = some (rR, hR) → Go w0 m0 (Func.ntmps Try.f47) I64 [(30, v30), (31, .int .i64 t31), (32, .int .i64 t32)] [] h_65 := by
       intro m
       induction m with
       | zero => intro t32 h_65 z; cases z
       | succ m ih64 =>
        intro t32 h_65 z
        rw [pattern_empty_L1_s] at z; unfold pattern_empty_L1b at z
        refine b64 ?_
        refine W.s (fun _ n66 _ _ _ => ?_)
        refine W.r ?_
        replace z := lS z; obtain ⟨t33, e67, z⟩ := z
        refine WL.val (d := (some 33)) (v := .bool t33) (h' := h_65) (by kernel_rfl) (by kernel_rfl) (val_of AV.bool e67 (by kernel_rfl)) ?_
        refine WL.n ?_
        refine Go.weaken (l' := [(30, v30), (31, .int .i64 t31), (32, .int .i64 t32), (33, .bool t33)]) (Fr.c (Fr.c (Fr.c (Fr.c Fr.n)))) ?_
        refine n66 ?_
        refine W.s (fun _ n68 e68 _ _ => ?_)
        cases t33 with
        | true =>
         replace z := ifB_t z
         refine W.t ?_
         refine W.skip (by kernel_rfl) ?_
         refine n68 ?_
         refine W.s (fun _ n69 _ q69 _ => ?_)
         refine W.blockK (by kernel_rfl) (fun K70 n70 s70 o70 q70 p70 => ?_)
         refine W.s (fun _ n71 _ _ _ => ?_)
         refine W.r ?_
         replace z := oS z; obtain ⟨t34, e72, z⟩ := z
         refine WL.b (some 34) t34 h_65 (index_row (P := Pg) (h := h_65) (t := 39) (e' := 41) (k := .i64) (by kernel_rfl) (by kernel_rfl) (by kernel_rfl) e72) ?_
         replace z := oS z; obtain ⟨t35, e73, z⟩ := z
         refine WL.b (some 35) (.agg t35) h_65 (load_row (P := Pg) (h := h_65) (t := 41) (by kernel_rfl) (by kernel_rfl) e73) ?_
         replace z := lS z; obtain ⟨h_74, e75, z⟩ := z
         refine WL.val (d := (some 6)) (v := (newP h_65)) (h' := h_74) (by kernel_rfl) (by kernel_rfl) (val_ofH e75 (by kernel_rfl)) ?_
         replace z := oS z; obtain ⟨h_76, e77, z⟩ := z
         refine WL.e h_76 (store_row (P := Pg) (h := h_74) (t := 41) (v := (.agg t35)) (by kernel_rfl) (by kernel_rfl) e77) ?_
         refine WL.n ?_
         refine Go.weaken (l' := [(6, newP h_65), (30, v30), (31, .int .i64 t31), (32, .int .i64 t32)]) (Fr.c (Fr.c (Fr.c (Fr.c Fr.n)))) ?_
         refine n71 ?_
         refine W.s (fun _ n78 _ _ _ => ?_)
         refine W.r ?_
         replace z := oS z; obtain ⟨t36, e79, z⟩ := z
         refine WL.b (some 36) (.agg t36) h_76 (load_row (P := Pg) (h := h_76) (t := 41) (by kernel_rfl) (by kernel_rfl) e79) ?_
         replace z := callN_some z; obtain ⟨r37, h_80, e81, z⟩ := z
         replace z := oS z; obtain ⟨t37, c82, z⟩ := z
         have c82 := avBool_some c82
         subst c82
         refine WL.c (hc.ok w0) (some 37) e81 ?_
         refine WL.n ?_
         refine Go.weaken (l' := [(30, v30), (31, .int .i64 t31), (32, .int .i64 t32), (37, .bool t37)]) (Fr.c (Fr.c (Fr.c (Fr.c Fr.n)))) ?_
         refine n78 ?_
         cases t37 with
         | true =>
          replace z := ifB_t z
          refine W.t ?_
          refine W.s (fun _ n83 _ _ _ => ?_)
          refine W.r ?_
          refine WL.a (some 2) (.bool true) h_80 ?_
          refine WL.n ?_
          refine Go.weaken (l' := [(2, .bool true)]) (Fr.c Fr.n) ?_
          refine n83 ?_
          refine W.ret (by kernel_rfl) ?_
          refine q70 ?_
          refine q69 ?_
          refine q64 ?_
          refine q61 ?_
          refine q9 ?_
          refine q4 ?_
          obtain ⟨z, hF2⟩ := ret_inj z; subst z; subst hF2
          exact leave_of (rs := [.tmp 2]) (vs := [.bool true]) (by kernel_rfl) (res_tmp (by kernel_rfl) res_nil) (by kernel_rfl)
         | false =>
          replace z := ifB_f z
          refine W.f ?_
          refine W.skip (by kernel_rfl) ?_
          refine n70 ?_
          refine n69 ?_
          refine W.r ?_
          replace z := lS z; obtain ⟨t38, e84, z⟩ := z
          refine WL.val (d := (some 38)) (v := .int .i64 t38) (h' := h_80) (by kernel_rfl) (by kernel_rfl) (val_of (AV.int .i64) e84 (by kernel_rfl)) ?_
          refine WL.a (some 32) (.int .i64 t38) h_80 ?_
          refine WL.n ?_
          refine Go.weaken (l' := [(30, v30), (31, .int .i64 t31), (32, .int .i64 t38)]) (Fr.c (Fr.c (Fr.c Fr.n))) ?_
          refine n64 ?_
          exact Go.weaken (Fr.c (Fr.c (Fr.c Fr.n))) (ih64 _ _ z)
        | false =>
         replace z := ifB_f z
         refine W.f ?_
         refine W.exit (by kernel_rfl) ?_
         refine e68 ?_
         refine e64 ?_
         refine s61 (by kernel_rfl) ?_
         exact Go.weaken Fr.n (J62 _ z)
      exact Go.weaken (Fr.c (Fr.c (Fr.c Fr.n))) (L64 _ _ _ z)
     | false =>
      replace z := ifB_f z
      refine W.f ?_
      refine W.skip (by kernel_rfl) ?_
      exact Go.weaken Fr.n (J54 _ z)
   cases t14 with
   | true =>
    replace z := ifB_t z
    refine W.t ?_
    refine W.skip (by kernel_rfl) ?_
    exact Go.weaken (Fr.c (Fr.c (Fr.c Fr.n))) (J19 _ _ z)
   | false =>
    replace z := ifB_f z
    refine W.f ?_
    refine W.r ?_
    replace z := lS z; obtain ⟨t15, e85, z⟩ := z
    refine WL.val (d := (some 15)) (v := .bool t15) (h' := h_14) (by kernel_rfl) (by kernel_rfl) (val_of AV.bool e85 (by kernel_rfl)) ?_
    refine WL.a (some 13) (.bool t15) h_14 ?_
    refine WL.n ?_
    refine Go.weaken (l' := [(1, v1), (8, .int .i64 t8), (13, .bool t15)]) (Fr.c (Fr.c (Fr.c Fr.n))) ?_
    exact Go.weaken (Fr.c (Fr.c (Fr.c Fr.n))) (J19 _ _ z)
 cases t10 with
 | true =>
  replace z := ifB_t z
  refine W.t ?_
  refine W.skip (by kernel_rfl) ?_
  exact Go.weaken (Fr.c (Fr.c (Fr.c Fr.n))) (J13 _ _ z)
 | false =>
  replace z := ifB_f z
  refine W.f ?_
  refine W.s (fun _ n86 _ _ _ => ?_)
  refine W.r ?_
  replace z := lS z; obtain ⟨t11, e87, z⟩ := z
  refine WL.val (d := (some 11)) (v := .bool t11) (h' := h_2) (by kernel_rfl) (by kernel_rfl) (val_of AV.bool e87 (by kernel_rfl)) ?_
  refine WL.a (some 9) (.bool t11) h_2 ?_
  refine WL.n ?_
  refine Go.weaken (l' := [(1, v1), (8, .int .i64 t8), (9, .bool t11)]) (Fr.c (Fr.c (Fr.c Fr.n))) ?_
  refine n86 ?_
  replace z := lS z; obtain ⟨k88, e88, z⟩ := z
  have J88 : ∀ (t9_89 : Bool) (h_90 : AHeap), k88 t9_89 h_90 = some (rR, hR) → Go w0 m0 (Func.ntmps Try.f47) (K10 .normal) [(1, v1), (8, .int .i64 t8), (9, .bool t9_89)] [] h_90 := by
   intro t9_89 h_90 z
   rw [e88] at z
   exact Go.weaken (Fr.c (Fr.c (Fr.c Fr.n))) (J13 _ _ z)
  cases t11 with
  | true =>
   replace z := ifB_t z
   refine W.t ?_
   refine W.skip (by kernel_rfl) ?_
   exact Go.weaken (Fr.c (Fr.c (Fr.c Fr.n))) (J88 _ _ z)
  | false =>
   replace z := ifB_f z
   refine W.f ?_
   refine W.r ?_
   replace z := lS z; obtain ⟨t12, e91, z⟩ := z
   refine WL.val (d := (some 12)) (v := .bool t12) (h' := h_2) (by kernel_rfl) (by kernel_rfl) (val_of AV.bool e91 (by kernel_rfl)) ?_
   refine WL.a (some 9) (.bool t12) h_2 ?_
   refine WL.n ?_
   refine Go.weaken (l' := [(1, v1), (8, .int .i64 t8), (9, .bool t12)]) (Fr.c (Fr.c (Fr.c Fr.n))) ?_
   exact Go.weaken (Fr.c (Fr.c (Fr.c Fr.n))) (J88 _ _ z)
noncomputable def pattern_empty_fn (call : CallF) (n : Nat) : FnT := fun args h => match args with
 | [x0] => obind (avAgg x0) fun t0 => pattern_empty call n t0 h
 | _ => none
set_option maxRecDepth 100000 in
theorem pattern_empty_fn_eq (call : CallF) (n : Nat) (t0 : List AV) (h : AHeap) : pattern_empty_fn call n [.agg t0] h = pattern_empty call n t0 h :=
 (Eq.trans (obind_eq (fun t0 => pattern_empty call n t0 h) (avAgg_agg t0)) rfl)
theorem pattern_empty_holds {call : CallF} (hc : SaysAll Pg call) (n : Nat) : Holds Pg 47 (pattern_empty_fn call n) := by
 intro args h r h2 e
 unfold pattern_empty_fn at e
 split at e
 ·replace e := oS e; obtain ⟨t0, c0, e⟩ := e; have c0 := avAgg_some c0; subst c0
  exact pattern_empty_ok hc e
 ·cases e
noncomputable def worldF (n : Nat) (call : CallF) : CallF := callOf [
 (13, (constF (.ret (.bool true)))),
 (35, pattern_guard_fn call n),
 (54, pattern_reader_take_fn call n),
 (55, pattern_reader_skips_fn call n),
 (68, pattern_reader_sees_fn call n),
 (74, pattern_reader_ended_fn call n),
 (62, pattern_reader_end_fn call n),
 (71, pattern_reader_next_fn call n),
 (72, pattern_reader_refuseLast_fn call n),
 (57, gcF (pattern_refuse_fn call n)),
 (21, gcF (pattern_Tree_fn call n)),
 (39, pattern_Tree_1_fn call n),
 (40, pattern_reader_tree_fn call n),
 (59, pattern_reader_row_fn call n),
 (63, pattern_reader_literalPart_fn call n),
 (60, pattern_reader_globPart_fn call n),
 (61, pattern_reader_alternatives_fn call n),
 (79, pattern_reader_regularRow_fn call n),
 (85, pattern_reader_regularPart_fn call n),
 (88, pattern_reader_atom_fn call n),
 (91, pattern_reader_members_fn call n),
 (93, pattern_reader_member_fn call n),
 (94, pattern_reader_memberByte_fn call n),
 (84, pattern_addSpan_fn call n),
 (78, gcF (pattern_oneByte_fn call n)),
 (77, gcF (pattern_anyByte_fn call n)),
 (76, pattern_over_fn call n),
 (75, pattern_inRow_fn call n),
 (34, gcF (ref09_bad_fn call n)),
 (22, gcF (ref09_Tree_fn call n)),
 (41, gcF (ref09_literal_fn call n)),
 (42, gcF (ref09_glob_fn call n)),
 (64, gcF (ref09_One_fn call n)),
 (66, gcF (ref09_All_fn call n)),
 (65, ref09_Over_fn call n),
 (43, gcF (ref09_alts_fn call n)),
 (67, gcF (ref09_row_fn call n)),
 (80, gcF (ref09_atom_fn call n)),
 (86, gcF (ref09_class_fn call n)),
 (89, gcF (ref09_member_fn call n)),
 (23, gcF (ref09_Same_fn call n)),
 (48, gcF (ref09_Nothing_fn call n)),
 (28, gcF (ref09_Empty_fn call n)),
 (27, gcF (pattern_Empty_fn call n)),
 (47, gcF (pattern_empty_fn call n))]
set_option maxRecDepth 20000 in
theorem worldF_ok (n : Nat) (call : CallF) (hc : SaysAll Try.prog call) : SaysAll Try.prog (worldF n call) := (callOf_cons works_holds
 (callOf_cons (pattern_guard_holds hc n)
 (callOf_cons (pattern_reader_take_holds hc n)
 (callOf_cons (pattern_reader_skips_holds hc n)
 (callOf_cons (pattern_reader_sees_holds hc n)
 (callOf_cons (pattern_reader_ended_holds hc n)
 (callOf_cons (pattern_reader_end_holds hc n)
 (callOf_cons (pattern_reader_next_holds hc n)
 (callOf_cons (pattern_reader_refuseLast_holds hc n)
 (callOf_cons (gcF_holds (pattern_refuse_holds hc n))
 (callOf_cons (gcF_holds (pattern_Tree_holds hc n))
 (callOf_cons (pattern_Tree_1_holds hc n)
 (callOf_cons (pattern_reader_tree_holds hc n)
 (callOf_cons (pattern_reader_row_holds hc n)
 (callOf_cons (pattern_reader_literalPart_holds hc n)
 (callOf_cons (pattern_reader_globPart_holds hc n)
 (callOf_cons (pattern_reader_alternatives_holds hc n)
 (callOf_cons (pattern_reader_regularRow_holds hc n)
 (callOf_cons (pattern_reader_regularPart_holds hc n)
 (callOf_cons (pattern_reader_atom_holds hc n)
 (callOf_cons (pattern_reader_members_holds hc n)
 (callOf_cons (pattern_reader_member_holds hc n)
 (callOf_cons (pattern_reader_memberByte_holds hc n)
 (callOf_cons (pattern_addSpan_holds hc n)
 (callOf_cons (gcF_holds (pattern_oneByte_holds hc n))
 (callOf_cons (gcF_holds (pattern_anyByte_holds hc n))
 (callOf_cons (pattern_over_holds hc n)
 (callOf_cons (pattern_inRow_holds hc n)
 (callOf_cons (gcF_holds (ref09_bad_holds hc n))
 (callOf_cons (gcF_holds (ref09_Tree_holds hc n))
 (callOf_cons (gcF_holds (ref09_literal_holds hc n))
 (callOf_cons (gcF_holds (ref09_glob_holds hc n))
 (callOf_cons (gcF_holds (ref09_One_holds hc n))
 (callOf_cons (gcF_holds (ref09_All_holds hc n))
 (callOf_cons (ref09_Over_holds hc n)
 (callOf_cons (gcF_holds (ref09_alts_holds hc n))
 (callOf_cons (gcF_holds (ref09_row_holds hc n))
 (callOf_cons (gcF_holds (ref09_atom_holds hc n))
 (callOf_cons (gcF_holds (ref09_class_holds hc n))
 (callOf_cons (gcF_holds (ref09_member_holds hc n))
 (callOf_cons (gcF_holds (ref09_Same_holds hc n))
 (callOf_cons (gcF_holds (ref09_Nothing_holds hc n))
 (callOf_cons (gcF_holds (ref09_Empty_holds hc n))
 (callOf_cons (gcF_holds (pattern_Empty_holds hc n))
 (callOf_cons (gcF_holds (pattern_empty_holds hc n))
 callOf_nil)))))))))))))))))))))))))))))))))))))))))))))
noncomputable def world (n d : Nat) : CallF := iterW (worldF n) d
theorem world_ok (n d : Nat) : SaysAll Try.prog (world n d) := iterW_ok (worldF_ok n) d
theorem w_pattern_guard (n d : Nat) (t0 : AV) (h : AHeap) : world n (d + 1) 35 [t0] h = pattern_guard (world n d) n t0 h :=
 Eq.trans (b := pattern_guard_fn (world n d) n [t0] h) (by kernel_rfl) (by rw [pattern_guard_fn_eq])
theorem w_pattern_reader_take (n d : Nat) (t0 : AV) (t1 : Int) (h : AHeap) : world n (d + 1) 54 [t0, .int .u8 t1] h = pattern_reader_take (world n d) n t0 t1 h :=
 Eq.trans (b := pattern_reader_take_fn (world n d) n [t0, .int .u8 t1] h) (by kernel_rfl) (by rw [pattern_reader_take_fn_eq])
theorem w_pattern_reader_skips (n d : Nat) (t0 : AV) (t1 : Int) (h : AHeap) : world n (d + 1) 55 [t0, .int .u8 t1] h = pattern_reader_skips (world n d) n t0 t1 h :=
 Eq.trans (b := pattern_reader_skips_fn (world n d) n [t0, .int .u8 t1] h) (by kernel_rfl) (by rw [pattern_reader_skips_fn_eq])
theorem w_pattern_reader_sees (n d : Nat) (t0 : AV) (t1 : Int) (h : AHeap) : world n (d + 1) 68 [t0, .int .u8 t1] h = pattern_reader_sees (world n d) n t0 t1 h :=
 Eq.trans (b := pattern_reader_sees_fn (world n d) n [t0, .int .u8 t1] h) (by kernel_rfl) (by rw [pattern_reader_sees_fn_eq])
theorem w_pattern_reader_ended (n d : Nat) (t0 : AV) (h : AHeap) : world n (d + 1) 74 [t0] h = pattern_reader_ended (world n d) n t0 h :=
 Eq.trans (b := pattern_reader_ended_fn (world n d) n [t0] h) (by kernel_rfl) (by rw [pattern_reader_ended_fn_eq])
theorem w_pattern_reader_end (n d : Nat) (t0 : AV) (h : AHeap) : world n (d + 1) 62 [t0] h = pattern_reader_end (world n d) n t0 h :=
 Eq.trans (b := pattern_reader_end_fn (world n d) n [t0] h) (by kernel_rfl) (by rw [pattern_reader_end_fn_eq])
theorem w_pattern_reader_next (n d : Nat) (t0 : AV) (h : AHeap) : world n (d + 1) 71 [t0] h = pattern_reader_next (world n d) n t0 h :=
 Eq.trans (b := pattern_reader_next_fn (world n d) n [t0] h) (by kernel_rfl) (by rw [pattern_reader_next_fn_eq])
theorem w_pattern_reader_refuseLast (n d : Nat) (t0 : AV) (h : AHeap) : world n (d + 1) 72 [t0] h = pattern_reader_refuseLast (world n d) n t0 h :=
 Eq.trans (b := pattern_reader_refuseLast_fn (world n d) n [t0] h) (by kernel_rfl) (by rw [pattern_reader_refuseLast_fn_eq])
theorem w_pattern_refuse (n d : Nat) (t0 : Int) (t1 : Int) (h : AHeap) : world n (d + 1) 57 [.int .i64 t0, .int .i64 t1] h = gcR h (pattern_refuse (world n d) n t0 t1 h) :=
 Eq.trans (b := gcR h (pattern_refuse_fn (world n d) n [.int .i64 t0, .int .i64 t1] h)) (by kernel_rfl) (by rw [pattern_refuse_fn_eq])
theorem w_pattern_Tree (n d : Nat) (t0 : List AV) (h : AHeap) : world n (d + 1) 21 [.agg t0] h = gcR h (pattern_Tree (world n d) n t0 h) :=
 Eq.trans (b := gcR h (pattern_Tree_fn (world n d) n [.agg t0] h)) (by kernel_rfl) (by rw [pattern_Tree_fn_eq])
theorem w_pattern_Tree_1 (n d : Nat) (t0 : AV) (t1 : AV) (t2 : AV) (h : AHeap) : world n (d + 1) 39 [t0, t1, t2] h = pattern_Tree_1 (world n d) n t0 t1 t2 h :=
 Eq.trans (b := pattern_Tree_1_fn (world n d) n [t0, t1, t2] h) (by kernel_rfl) (by rw [pattern_Tree_1_fn_eq])
theorem w_pattern_reader_tree (n d : Nat) (t0 : AV) (t1 : Int) (h : AHeap) : world n (d + 1) 40 [t0, .int .i64 t1] h = pattern_reader_tree (world n d) n t0 t1 h :=
 Eq.trans (b := pattern_reader_tree_fn (world n d) n [t0, .int .i64 t1] h) (by kernel_rfl) (by rw [pattern_reader_tree_fn_eq])
theorem w_pattern_reader_row (n d : Nat) (t0 : AV) (t1 : AV) (h : AHeap) : world n (d + 1) 59 [t0, t1] h = pattern_reader_row (world n d) n t0 t1 h :=
 Eq.trans (b := pattern_reader_row_fn (world n d) n [t0, t1] h) (by kernel_rfl) (by rw [pattern_reader_row_fn_eq])
theorem w_pattern_reader_literalPart (n d : Nat) (t0 : AV) (h : AHeap) : world n (d + 1) 63 [t0] h = pattern_reader_literalPart (world n d) n t0 h :=
 Eq.trans (b := pattern_reader_literalPart_fn (world n d) n [t0] h) (by kernel_rfl) (by rw [pattern_reader_literalPart_fn_eq])
theorem w_pattern_reader_globPart (n d : Nat) (t0 : AV) (h : AHeap) : world n (d + 1) 60 [t0] h = pattern_reader_globPart (world n d) n t0 h :=
 Eq.trans (b := pattern_reader_globPart_fn (world n d) n [t0] h) (by kernel_rfl) (by rw [pattern_reader_globPart_fn_eq])
theorem w_pattern_reader_alternatives (n d : Nat) (t0 : AV) (h : AHeap) : world n (d + 1) 61 [t0] h = pattern_reader_alternatives (world n d) n t0 h :=
 Eq.trans (b := pattern_reader_alternatives_fn (world n d) n [t0] h) (by kernel_rfl) (by rw [pattern_reader_alternatives_fn_eq])
theorem w_pattern_reader_regularRow (n d : Nat) (t0 : AV) (h : AHeap) : world n (d + 1) 79 [t0] h = pattern_reader_regularRow (world n d) n t0 h :=
 Eq.trans (b := pattern_reader_regularRow_fn (world n d) n [t0] h) (by kernel_rfl) (by rw [pattern_reader_regularRow_fn_eq])
theorem w_pattern_reader_regularPart (n d : Nat) (t0 : AV) (h : AHeap) : world n (d + 1) 85 [t0] h = pattern_reader_regularPart (world n d) n t0 h :=
 Eq.trans (b := pattern_reader_regularPart_fn (world n d) n [t0] h) (by kernel_rfl) (by rw [pattern_reader_regularPart_fn_eq])
theorem w_pattern_reader_atom (n d : Nat) (t0 : AV) (h : AHeap) : world n (d + 1) 88 [t0] h = pattern_reader_atom (world n d) n t0 h :=
 Eq.trans (b := pattern_reader_atom_fn (world n d) n [t0] h) (by kernel_rfl) (by rw [pattern_reader_atom_fn_eq])
theorem w_pattern_reader_members (n d : Nat) (t0 : AV) (h : AHeap) : world n (d + 1) 91 [t0] h = pattern_reader_members (world n d) n t0 h :=
 Eq.trans (b := pattern_reader_members_fn (world n d) n [t0] h) (by kernel_rfl) (by rw [pattern_reader_members_fn_eq])
theorem w_pattern_reader_member (n d : Nat) (t0 : AV) (t1 : AV) (h : AHeap) : world n (d + 1) 93 [t0, t1] h = pattern_reader_member (world n d) n t0 t1 h :=
 Eq.trans (b := pattern_reader_member_fn (world n d) n [t0, t1] h) (by kernel_rfl) (by rw [pattern_reader_member_fn_eq])
theorem w_pattern_reader_memberByte (n d : Nat) (t0 : AV) (h : AHeap) : world n (d + 1) 94 [t0] h = pattern_reader_memberByte (world n d) n t0 h :=
 Eq.trans (b := pattern_reader_memberByte_fn (world n d) n [t0] h) (by kernel_rfl) (by rw [pattern_reader_memberByte_fn_eq])
theorem w_pattern_addSpan (n d : Nat) (t0 : AV) (t1 : Int) (t2 : Int) (h : AHeap) : world n (d + 1) 84 [t0, .int .u8 t1, .int .u8 t2] h = pattern_addSpan (world n d) n t0 t1 t2 h :=
 Eq.trans (b := pattern_addSpan_fn (world n d) n [t0, .int .u8 t1, .int .u8 t2] h) (by kernel_rfl) (by rw [pattern_addSpan_fn_eq])
theorem w_pattern_oneByte (n d : Nat) (t0 : Int) (h : AHeap) : world n (d + 1) 78 [.int .u8 t0] h = gcR h (pattern_oneByte (world n d) n t0 h) :=
 Eq.trans (b := gcR h (pattern_oneByte_fn (world n d) n [.int .u8 t0] h)) (by kernel_rfl) (by rw [pattern_oneByte_fn_eq])
theorem w_pattern_anyByte (n d : Nat)  (h : AHeap) : world n (d + 1) 77 [] h = gcR h (pattern_anyByte (world n d) n  h) :=
 Eq.trans (b := gcR h (pattern_anyByte_fn (world n d) n [] h)) (by kernel_rfl) (by rw [pattern_anyByte_fn_eq])
theorem w_pattern_over (n d : Nat) (t0 : Int) (t1 : AV) (h : AHeap) : world n (d + 1) 76 [.int .i64 t0, t1] h = pattern_over (world n d) n t0 t1 h :=
 Eq.trans (b := pattern_over_fn (world n d) n [.int .i64 t0, t1] h) (by kernel_rfl) (by rw [pattern_over_fn_eq])
theorem w_pattern_inRow (n d : Nat) (t0 : AV) (h : AHeap) : world n (d + 1) 75 [t0] h = pattern_inRow (world n d) n t0 h :=
 Eq.trans (b := pattern_inRow_fn (world n d) n [t0] h) (by kernel_rfl) (by rw [pattern_inRow_fn_eq])
theorem w_ref09_bad (n d : Nat) (t0 : Int) (h : AHeap) : world n (d + 1) 34 [.int .i64 t0] h = gcR h (ref09_bad (world n d) n t0 h) :=
 Eq.trans (b := gcR h (ref09_bad_fn (world n d) n [.int .i64 t0] h)) (by kernel_rfl) (by rw [ref09_bad_fn_eq])
theorem w_ref09_Tree (n d : Nat) (t0 : List AV) (h : AHeap) : world n (d + 1) 22 [.agg t0] h = gcR h (ref09_Tree (world n d) n t0 h) :=
 Eq.trans (b := gcR h (ref09_Tree_fn (world n d) n [.agg t0] h)) (by kernel_rfl) (by rw [ref09_Tree_fn_eq])
theorem w_ref09_literal (n d : Nat) (t0 : Bytes) (h : AHeap) : world n (d + 1) 41 [strA t0] h = gcR h (ref09_literal (world n d) n t0 h) :=
 Eq.trans (b := gcR h (ref09_literal_fn (world n d) n [strA t0] h)) (by kernel_rfl) (by rw [ref09_literal_fn_eq])
theorem w_ref09_glob (n d : Nat) (t0 : Bytes) (h : AHeap) : world n (d + 1) 42 [strA t0] h = gcR h (ref09_glob (world n d) n t0 h) :=
 Eq.trans (b := gcR h (ref09_glob_fn (world n d) n [strA t0] h)) (by kernel_rfl) (by rw [ref09_glob_fn_eq])
theorem w_ref09_One (n d : Nat) (t0 : Int) (h : AHeap) : world n (d + 1) 64 [.int .u8 t0] h = gcR h (ref09_One (world n d) n t0 h) :=
 Eq.trans (b := gcR h (ref09_One_fn (world n d) n [.int .u8 t0] h)) (by kernel_rfl) (by rw [ref09_One_fn_eq])
theorem w_ref09_All (n d : Nat)  (h : AHeap) : world n (d + 1) 66 [] h = gcR h (ref09_All (world n d) n  h) :=
 Eq.trans (b := gcR h (ref09_All_fn (world n d) n [] h)) (by kernel_rfl) (by rw [ref09_All_fn_eq])
theorem w_ref09_Over (n d : Nat) (t0 : Int) (t1 : AV) (h : AHeap) : world n (d + 1) 65 [.int .i64 t0, t1] h = ref09_Over (world n d) n t0 t1 h :=
 Eq.trans (b := ref09_Over_fn (world n d) n [.int .i64 t0, t1] h) (by kernel_rfl) (by rw [ref09_Over_fn_eq])
theorem w_ref09_alts (n d : Nat) (t0 : Bytes) (t1 : Int) (h : AHeap) : world n (d + 1) 43 [strA t0, .int .i64 t1] h = gcR h (ref09_alts (world n d) n t0 t1 h) :=
 Eq.trans (b := gcR h (ref09_alts_fn (world n d) n [strA t0, .int .i64 t1] h)) (by kernel_rfl) (by rw [ref09_alts_fn_eq])
theorem w_ref09_row (n d : Nat) (t0 : Bytes) (t1 : Int) (h : AHeap) : world n (d + 1) 67 [strA t0, .int .i64 t1] h = gcR h (ref09_row (world n d) n t0 t1 h) :=
 Eq.trans (b := gcR h (ref09_row_fn (world n d) n [strA t0, .int .i64 t1] h)) (by kernel_rfl) (by rw [ref09_row_fn_eq])
theorem w_ref09_atom (n d : Nat) (t0 : Bytes) (t1 : Int) (h : AHeap) : world n (d + 1) 80 [strA t0, .int .i64 t1] h = gcR h (ref09_atom (world n d) n t0 t1 h) :=
 Eq.trans (b := gcR h (ref09_atom_fn (world n d) n [strA t0, .int .i64 t1] h)) (by kernel_rfl) (by rw [ref09_atom_fn_eq])
theorem w_ref09_class (n d : Nat) (t0 : Bytes) (t1 : Int) (h : AHeap) : world n (d + 1) 86 [strA t0, .int .i64 t1] h = gcR h (ref09_class (world n d) n t0 t1 h) :=
 Eq.trans (b := gcR h (ref09_class_fn (world n d) n [strA t0, .int .i64 t1] h)) (by kernel_rfl) (by rw [ref09_class_fn_eq])
theorem w_ref09_member (n d : Nat) (t0 : Bytes) (t1 : Int) (h : AHeap) : world n (d + 1) 89 [strA t0, .int .i64 t1] h = gcR h (ref09_member (world n d) n t0 t1 h) :=
 Eq.trans (b := gcR h (ref09_member_fn (world n d) n [strA t0, .int .i64 t1] h)) (by kernel_rfl) (by rw [ref09_member_fn_eq])
theorem w_ref09_Nothing (n d : Nat) (t0 : List AV) (h : AHeap) : world n (d + 1) 48 [.agg t0] h = gcR h (ref09_Nothing (world n d) n t0 h) :=
 Eq.trans (b := gcR h (ref09_Nothing_fn (world n d) n [.agg t0] h)) (by kernel_rfl) (by rw [ref09_Nothing_fn_eq])
theorem w_ref09_Empty (n d : Nat) (t0 : List AV) (h : AHeap) : world n (d + 1) 28 [.agg t0] h = gcR h (ref09_Empty (world n d) n t0 h) :=
 Eq.trans (b := gcR h (ref09_Empty_fn (world n d) n [.agg t0] h)) (by kernel_rfl) (by rw [ref09_Empty_fn_eq])
theorem w_pattern_Empty (n d : Nat) (t0 : List AV) (h : AHeap) : world n (d + 1) 27 [.agg t0] h = gcR h (pattern_Empty (world n d) n t0 h) :=
 Eq.trans (b := gcR h (pattern_Empty_fn (world n d) n [.agg t0] h)) (by kernel_rfl) (by rw [pattern_Empty_fn_eq])
theorem w_pattern_empty (n d : Nat) (t0 : List AV) (h : AHeap) : world n (d + 1) 47 [.agg t0] h = gcR h (pattern_empty (world n d) n t0 h) :=
 Eq.trans (b := gcR h (pattern_empty_fn (world n d) n [.agg t0] h)) (by kernel_rfl) (by rw [pattern_empty_fn_eq])
end Go.Proofs.Yteibdplpbcobbaa
namespace Go.Proofs.Yteibdplpbcobbaa.Abs
noncomputable section
open Go.RowKit
abbrev RowT := Nat × TypeId × List AV
structure Mem (S : List Nat) (h0 h : AHeap) (rs : List RowT) : Prop where
 row : ∀ x ∈ rs, RowH h x.1 x.2.1 x.2.2 ∧ x.1 < h.next ∧ (x.1 ∈ S ∨ h0.next ≤ x.1)
 apart : (rs.map (·.1)).Nodup
 tch : Tch S h0 h
section
variable {S : List Nat} {h0 h h' : AHeap} {xs ys rs : List RowT} {b o n : Nat} {e : TypeId} {l l' vs : List AV} {v : AV} {Q : ARes → AHeap → Prop} {K : AHeap → R} {x : R} {x0 x1 x2 x3 x4 : RowT}
theorem Mem.nil (S : List Nat) (h : AHeap) : Mem S h h [] := ⟨by simp, by simp, Tch.refl _ _⟩
theorem Mem.one (k : RowH h b e l) (hb : b < h.next) : Mem [b] h h [(b, e, l)] := ⟨by simpa using ⟨k, hb⟩, by simp, Tch.refl _ _⟩
theorem Mem.at (M : Mem S h0 h (xs ++ (b, e, l) :: ys)) : RowH h b e l ∧ b < h.next ∧ (b ∈ S ∨ h0.next ≤ b) := M.row (b, e, l) (by simp)
theorem Mem.upd (M : Mem S h0 h (xs ++ (b, e, l) :: ys)) (ht : Tch [b] h h') (k : RowH h' b e l') : Mem S h0 h' (xs ++ (b, e, l') :: ys) := by
 have hap := M.apart
 have hle := ht.1
 simp only [List.map_append, List.map_cons] at hap
 have hne : ∀ x ∈ xs ++ ys, x.1 ≠ b := by
  intro x hx hxb
  rw [List.nodup_append] at hap
  obtain ⟨_, h2, h3⟩ := hap
  rw [List.nodup_cons] at h2
  rcases List.mem_append.1 hx with hx | hx
  ·exact h3 x.1 (List.mem_map_of_mem hx) b (by simp) hxb
  ·exact h2.1 (by rw [← hxb]; exact List.mem_map_of_mem hx)
 refine ⟨fun x hx => ?_, by simpa only [List.map_append, List.map_cons] using hap, M.tch.trans' ht fun i hi => ?_⟩
 ·have hx' : x ∈ xs ++ ys ∨ x = (b, e, l') := by
   rcases List.mem_append.1 hx with hx | hx
   ·exact .inl (List.mem_append_left _ hx)
   ·rcases List.mem_cons.1 hx with hx | hx
    ·exact .inr hx
    ·exact .inl (List.mem_append_right _ hx)
  rcases hx' with hx' | rfl
  ·obtain ⟨h1, h2, h3⟩ := M.row x (by
    rcases List.mem_append.1 hx' with hx | hx
    ·exact List.mem_append_left _ hx
    ·exact List.mem_append_right _ (List.mem_cons_of_mem _ hx))
   exact ⟨h1.tch ht h2 (by simpa using hne x hx'), by omega, h3⟩
  ·have := M.at
   exact ⟨k, by show b < h'.next; omega, this.2.2⟩
 ·simp only [List.mem_cons, List.not_mem_nil, or_false] at hi
  subst hi
  exact M.at.2.2
theorem Mem.keep (M : Mem S h0 h rs) (ht : Tch [] h h') : Mem S h0 h' rs := by
 have hle := ht.1
 refine ⟨fun x hx => ?_, M.apart, M.tch.trans (ht.mono (by simp))⟩
 obtain ⟨h1, h2, h3⟩ := M.row x hx
 exact ⟨h1.tch ht h2 (by simp), by omega, h3⟩
theorem Mem.new (M : Mem S h0 h rs) (ht : Tch [] h h') (k : RowH h' b e l) (hb : h.next ≤ b) (hb2 : b < h'.next) : Mem S h0 h' ((b, e, l) :: rs) := by
 have M' := M.keep ht
 have hle := M.tch.1
 refine ⟨fun x hx => ?_, ?_, M'.tch⟩
 ·rcases List.mem_cons.1 hx with rfl | hx
  ·exact ⟨k, hb2, .inr (by show h0.next ≤ b; omega)⟩
  ·exact M'.row x hx
 ·rw [List.map_cons, List.nodup_cons]
  refine ⟨fun hm => ?_, M.apart⟩
  obtain ⟨x, hx, hxb⟩ := List.mem_map.1 hm
  have := (M.row x hx).2.1
  omega
theorem Mem.newH (M : Mem S h0 h rs) (e : TypeId) (l : List AV) : Mem S h0 (newH h e l) ((h.next, e, l) :: rs) := M.new (Tch.newH _ _ _ _) (RowH.new _ _ _) (Nat.le_refl _) (Nat.lt_succ_self _)
theorem Mem.drop (M : Mem S h0 h (xs ++ ys)) : Mem S h0 h ys := by
 refine ⟨fun x hx => M.row x (List.mem_append_right _ hx), ?_, M.tch⟩
 have := M.apart
 rw [List.map_append, List.nodup_append] at this
 exact this.2.1
theorem Mem.pop (M : Mem S h0 h (x0 :: rs)) : Mem S h0 h rs := Mem.drop (xs := [x0]) M
theorem Mem.ex (M : Mem S h0 h rs) : h.ex = h0.ex := M.tch.2.1
theorem Mem.swap (M : Mem S h0 h (x0 :: x1 :: rs)) : Mem S h0 h (x1 :: x0 :: rs) := by
 refine ⟨fun x hx => M.row x (by simp only [List.mem_cons] at hx ⊢; exact or_left_comm.1 hx), ?_, M.tch⟩
 have := M.apart
 simp only [List.map_cons, List.nodup_cons, List.mem_cons, not_or] at this ⊢
 exact ⟨⟨fun h => this.1.1 h.symm, this.2.1⟩, this.1.2, this.2.2⟩
theorem Wp.mnew (M : Mem S h0 h rs) (hk : ∀ h', Mem S h0 h' ((h.next, e, l) :: rs) → Wp (K h') Q) : Wp (Abs.lett (Abs.newH h e l) K) Q := hk _ (M.newH e l)
theorem Wp.mbox {K : AV → AHeap → R} (M : Mem S h0 h rs) (h1 : l.all AV.one = true) (hk : ∀ h', Mem S h0 h' ((h.next, e, l) :: rs) → Wp (K (.ptr h.next 0) h') Q) : Wp (Abs.outK (opBox h e (some (.agg l))) K) Q :=
 Wp.outK (box_agg h1) (hk _ (M.newH e l))
theorem Wp.mnews {K : AV → AHeap → R} {w : OutT} {sz : Nat} (M : Mem S h0 h rs) (eb : w = outNewS h e l n sz) (h1 : l.all AV.one = true) (hex : memB e h0.ex = false) (hk : ∀ h', Mem S h0 h' ((h.next, e, l) :: rs) → Wp (K (.sl h.next 0 n sz) h') Q) : Wp (Abs.outK w K) Q := by
 refine Wp.outK (v := .sl h.next 0 n sz) (h1 := Abs.newH h e l) ?_ (hk _ (M.newH e l))
 rw [eb]
 unfold outNewS
 rw [if_pos ⟨h1, by rw [M.ex]; exact hex⟩]
 rfl
theorem Wp.mcall {K : AV → AHeap → R} (hx : ∃ h', x = some (.ret v, h') ∧ Tch [] h h') (M : Mem S h0 h rs) (hk : ∀ h', Mem S h0 h' rs → Tch [] h h' → Wp (K v h') Q) : Wp (Abs.callN x K) Q := by
 obtain ⟨h', e1, t⟩ := hx
 exact Wp.callN e1 (hk h' (M.keep t) t)
theorem and_t {a c : Bool} (h1 : a = true) (h2 : c = true) : (a && c) = true := by rw [h1, h2]; rfl
theorem Mem.at0 (M : Mem S h0 h ((b, e, l) :: ys)) : RowH h b e l ∧ b < h.next ∧ (b ∈ S ∨ h0.next ≤ b) := Mem.at (xs := []) M
theorem Wp.ld0 {K : AV → R} (M : Mem S h0 h ((b, e, l) :: ys)) (ho : l[o]? = some v) (hk : Wp (K v) Q) : Wp (Abs.obind (ldCell h (.ptr b o)) K) Q := Wp.obind (RowH.cell' (Mem.at (xs := []) M).1 ho) hk
theorem Wp.lr0 {K : List AV → R} (M : Mem S h0 h ((b, e, l) :: ys)) (hn : l.length = n) (hk : Wp (K l) Q) : Wp (Abs.obind (ldRow h n (.ptr b 0)) K) Q := Wp.obind (RowH.ldAll (Mem.at (xs := []) M).1 hn) hk
theorem Wp.sa0 (M : Mem S h0 h ((b, e, l) :: ys)) (hn : vs.length = n) (hl : l.length = n) (h1 : vs.all AV.one = true) (hk : ∀ h', Mem S h0 h' ((b, e, vs) :: ys) → Wp (K h') Q) : Wp (Abs.obind (stRow h n vs (.ptr b 0)) K) Q :=
 Wp.stAll (Mem.at (xs := []) M).1 hn hl h1 fun h' k' t' _ => hk h' (Mem.upd (xs := []) M t' k')
theorem Wp.ms0 (M : Mem S h0 h ((b, e, l) :: ys)) (ho : o < l.length) (h1 : v.one = true) (hk : ∀ h', Mem S h0 h' ((b, e, l.set o v) :: ys) → Wp (K h') Q) : Wp (Abs.obind (stRow h 1 [v] (.ptr b o)) K) Q :=
 Wp.st1 (Mem.at (xs := []) M).1 ho h1 fun h' k' t' _ => hk h' (Mem.upd (xs := []) M t' k')
theorem Mem.rr0 {P : Program} {ty : TypeId} (M : Mem S h0 h ((b, e, l) :: ys)) (ha : aggO P ty = some true) (hn : P.cellsOf ty = l.length) : reLoad P h ty (.ptr b 0) (.agg l) = true := reLoad_r ha hn (RowH.ldAll (Mem.at (xs := []) M).1 rfl)
theorem Mem.at1 (M : Mem S h0 h (x0 :: (b, e, l) :: ys)) : RowH h b e l ∧ b < h.next ∧ (b ∈ S ∨ h0.next ≤ b) := Mem.at (xs := [x0]) M
theorem Wp.ld1 {K : AV → R} (M : Mem S h0 h (x0 :: (b, e, l) :: ys)) (ho : l[o]? = some v) (hk : Wp (K v) Q) : Wp (Abs.obind (ldCell h (.ptr b o)) K) Q := Wp.obind (RowH.cell' (Mem.at (xs := [x0]) M).1 ho) hk
theorem Wp.lr1 {K : List AV → R} (M : Mem S h0 h (x0 :: (b, e, l) :: ys)) (hn : l.length = n) (hk : Wp (K l) Q) : Wp (Abs.obind (ldRow h n (.ptr b 0)) K) Q := Wp.obind (RowH.ldAll (Mem.at (xs := [x0]) M).1 hn) hk
theorem Wp.sa1 (M : Mem S h0 h (x0 :: (b, e, l) :: ys)) (hn : vs.length = n) (hl : l.length = n) (h1 : vs.all AV.one = true) (hk : ∀ h', Mem S h0 h' (x0 :: (b, e, vs) :: ys) → Wp (K h') Q) : Wp (Abs.obind (stRow h n vs (.ptr b 0)) K) Q :=
 Wp.stAll (Mem.at (xs := [x0]) M).1 hn hl h1 fun h' k' t' _ => hk h' (Mem.upd (xs := [x0]) M t' k')
theorem Wp.ms1 (M : Mem S h0 h (x0 :: (b, e, l) :: ys)) (ho : o < l.length) (h1 : v.one = true) (hk : ∀ h', Mem S h0 h' (x0 :: (b, e, l.set o v) :: ys) → Wp (K h') Q) : Wp (Abs.obind (stRow h 1 [v] (.ptr b o)) K) Q :=
 Wp.st1 (Mem.at (xs := [x0]) M).1 ho h1 fun h' k' t' _ => hk h' (Mem.upd (xs := [x0]) M t' k')
theorem Wp.ld2 {K : AV → R} (M : Mem S h0 h (x0 :: x1 :: (b, e, l) :: ys)) (ho : l[o]? = some v) (hk : Wp (K v) Q) : Wp (Abs.obind (ldCell h (.ptr b o)) K) Q := Wp.obind (RowH.cell' (Mem.at (xs := [x0, x1]) M).1 ho) hk
theorem Wp.lr2 {K : List AV → R} (M : Mem S h0 h (x0 :: x1 :: (b, e, l) :: ys)) (hn : l.length = n) (hk : Wp (K l) Q) : Wp (Abs.obind (ldRow h n (.ptr b 0)) K) Q := Wp.obind (RowH.ldAll (Mem.at (xs := [x0, x1]) M).1 hn) hk
theorem Wp.sa2 (M : Mem S h0 h (x0 :: x1 :: (b, e, l) :: ys)) (hn : vs.length = n) (hl : l.length = n) (h1 : vs.all AV.one = true) (hk : ∀ h', Mem S h0 h' (x0 :: x1 :: (b, e, vs) :: ys) → Wp (K h') Q) : Wp (Abs.obind (stRow h n vs (.ptr b 0)) K) Q :=
 Wp.stAll (Mem.at (xs := [x0, x1]) M).1 hn hl h1 fun h' k' t' _ => hk h' (Mem.upd (xs := [x0, x1]) M t' k')
theorem Mem.rr2 {P : Program} {ty : TypeId} (M : Mem S h0 h (x0 :: x1 :: (b, e, l) :: ys)) (ha : aggO P ty = some true) (hn : P.cellsOf ty = l.length) : reLoad P h ty (.ptr b 0) (.agg l) = true := reLoad_r ha hn (RowH.ldAll (Mem.at (xs := [x0, x1]) M).1 rfl)
theorem Wp.ld3 {K : AV → R} (M : Mem S h0 h (x0 :: x1 :: x2 :: (b, e, l) :: ys)) (ho : l[o]? = some v) (hk : Wp (K v) Q) : Wp (Abs.obind (ldCell h (.ptr b o)) K) Q := Wp.obind (RowH.cell' (Mem.at (xs := [x0, x1, x2]) M).1 ho) hk
theorem Wp.lr3 {K : List AV → R} (M : Mem S h0 h (x0 :: x1 :: x2 :: (b, e, l) :: ys)) (hn : l.length = n) (hk : Wp (K l) Q) : Wp (Abs.obind (ldRow h n (.ptr b 0)) K) Q := Wp.obind (RowH.ldAll (Mem.at (xs := [x0, x1, x2]) M).1 hn) hk
theorem Wp.sa3 (M : Mem S h0 h (x0 :: x1 :: x2 :: (b, e, l) :: ys)) (hn : vs.length = n) (hl : l.length = n) (h1 : vs.all AV.one = true) (hk : ∀ h', Mem S h0 h' (x0 :: x1 :: x2 :: (b, e, vs) :: ys) → Wp (K h') Q) : Wp (Abs.obind (stRow h n vs (.ptr b 0)) K) Q :=
 Wp.stAll (Mem.at (xs := [x0, x1, x2]) M).1 hn hl h1 fun h' k' t' _ => hk h' (Mem.upd (xs := [x0, x1, x2]) M t' k')
theorem Wp.ld4 {K : AV → R} (M : Mem S h0 h (x0 :: x1 :: x2 :: x3 :: (b, e, l) :: ys)) (ho : l[o]? = some v) (hk : Wp (K v) Q) : Wp (Abs.obind (ldCell h (.ptr b o)) K) Q := Wp.obind (RowH.cell' (Mem.at (xs := [x0, x1, x2, x3]) M).1 ho) hk
end
end
end Go.Proofs.Yteibdplpbcobbaa.Abs
namespace Go.Proofs.Yteibdplpbcobbaa.Abs
noncomputable section
open Go.RowKit
def GrowT (e : TypeId) (sz : Nat) (rows : List (List AV)) (v : AV) (T : List RowT) : Prop :=
 (∀ r ∈ rows, r.length = sz ∧ r.all AV.one = true) ∧ ((rows = [] ∧ v = .nsl ∧ T = []) ∨ (rows ≠ [] ∧ ∃ c, v = .sl c 0 rows.length sz ∧ T = [(c, e, rows.flatten)]))
theorem GrowT.nil (e : TypeId) (sz : Nat) : GrowT e sz [] .nsl [] := ⟨by simp, .inl ⟨rfl, rfl, rfl⟩⟩
section
variable {P : Program} {S : List Nat} {h0 h h' : AHeap} {xs ys rs T : List RowT} {b o n sz B : Nat} {e t u : TypeId} {l l' vs r : List AV} {v x : AV} {rows : List (List AV)} {Q : ARes → AHeap → Prop}
theorem GrowT.len (g : GrowT e sz rows v T) : lenL v = some (rows.length : Int) := by
 rcases g.2 with ⟨rfl, rfl, _⟩ | ⟨_, c, rfl, _⟩ <;> rfl
theorem GrowT.one (g : GrowT e sz rows v T) : v.one = true ∧ AV.cells v = [v] := by
 rcases g.2 with ⟨rfl, rfl, _⟩ | ⟨_, c, rfl, _⟩ <;> exact ⟨rfl, rfl⟩
theorem Mem.perm (M : Mem S h0 h rs) (hp : ys.Perm rs) : Mem S h0 h ys :=
 ⟨fun x hx => M.row x (hp.subset hx), (hp.map _).nodup_iff.2 M.apart, M.tch⟩
theorem Mem.kill (M : Mem S h0 h (xs ++ [(b, e, l)])) : Mem S h0 (h.put b .dead) xs := by
 have hb := M.at
 have hap := M.apart
 rw [List.map_append, List.nodup_append] at hap
 refine ⟨fun x hx => ?_, hap.1, M.tch.trans' (Tch.put (S := [b]) (.inl (by simp)) _) (by intro i hi; simp at hi; subst hi; exact hb.2.2)⟩
 obtain ⟨h1, h2, h3⟩ := M.row x (List.mem_append_left _ hx)
 have hne : x.1 ≠ b := hap.2.2 x.1 (List.mem_map_of_mem hx) b (by simp)
 exact ⟨h1.same (get_put_other _ (Ne.symm hne)), h2, h3⟩
theorem Mem.grow (M : Mem S h0 h (xs ++ T)) (g : GrowT e sz rows v T) (he : elemOf P t = some e) (hu : notInt P u = true) (hsz : P.cellsOf e = sz) (hfit : fitB P e B = true) (hex : memB e h0.ex = false)
  (hx : lenA x = some 1) (hf : firstA h sz 1 x = some r) (hr : r.length = sz) (hr1 : r.all AV.one = true) (hbig : (rows.length + 1) * B ≤ 1000000000) (hbig2 : rows.length + 1 ≤ 1000000000) :
  ∃ v' h' T', opAppend P h t u v x = some (.val v', h') ∧ Mem S h0 h' (xs ++ T') ∧ GrowT e sz (rows ++ [r]) v' T' := by
 have hall : ∀ q ∈ rows ++ [r], q.length = sz ∧ q.all AV.one = true := by
  intro q hq
  rcases List.mem_append.1 hq with hq | hq
  ·exact g.1 q hq
  ·simp at hq
   subst hq
   exact ⟨hr, hr1⟩
 have hfl : (rows ++ [r]).flatten = rows.flatten ++ r := by simp
 have hex' : memB e h.ex = false := by rw [M.ex]; exact hex
 rcases g.2 with ⟨rfl, rfl, rfl⟩ | ⟨h1, c, rfl, rfl⟩
 ·have a1 := append_new (P := P) (h := h) (t := t) (u := u) (n := 0) (x := x) he hu hsz hx hf (bytesFit_of hfit (by simpa using hbig) (by omega)) hr1 hex'
  rw [List.append_nil] at M
  refine ⟨_, _, [(h.next, e, r)], a1, (M.newH e r).perm List.perm_append_comm, ⟨hall, .inr ⟨by simp, h.next, by simp, by simp⟩⟩⟩
 ·have hl := len_same rows (fun l hl => (g.1 l hl).1)
  have hc := M.at
  have a1 := append_more (P := P) (h := h) (t := t) (u := u) (b := c) (o := 0) (m := rows.length) (n := 0) (x := x) (cs := rows.flatten) he hu hsz hx hf (bytesFit_of hfit hbig hbig2) hr1 hex' (by
   have := hc.1.part (o := 0) (n := rows.flatten.length) (by omega)
   rw [List.drop_zero, List.take_length] at this
   rw [← hl]
   exact this) hc.1.type
  have M1 := M.kill
  refine ⟨_, _, [(h.next, e, rows.flatten ++ r)], a1, (M1.newH e (rows.flatten ++ r)).perm List.perm_append_comm, ⟨hall, .inr ⟨by simp, h.next, by simp, by rw [hfl]⟩⟩⟩
theorem Mem.frame (M : Mem S h0 h (xs ++ rs)) (M' : Mem (xs.map (·.1)) h h' ys) : Mem S h0 h' (ys ++ rs) := by
 have hap := M.apart
 rw [List.map_append, List.nodup_append] at hap
 obtain ⟨a1, a2, a3⟩ := hap
 have hxs : ∀ b ∈ xs.map (·.1), b ∈ S ∨ h0.next ≤ b := by
  intro b hb
  obtain ⟨x, hx, rfl⟩ := List.mem_map.1 hb
  exact (M.row x (List.mem_append_left _ hx)).2.2
 have hle := M.tch.1
 have hle' := M'.tch.1
 refine ⟨fun x hx => ?_, ?_, M.tch.trans' M'.tch hxs⟩
 ·rcases List.mem_append.1 hx with hx | hx
  ·obtain ⟨h1, h2, h3⟩ := M'.row x hx
   exact ⟨h1, h2, h3.elim (fun h => hxs _ h) (fun h => .inr (by omega))⟩
  ·obtain ⟨h1, h2, h3⟩ := M.row x (List.mem_append_right _ hx)
   exact ⟨h1.tch M'.tch h2 (fun hm => a3 x.1 hm x.1 (List.mem_map_of_mem hx) rfl), by omega, h3⟩
 ·rw [List.map_append, List.nodup_append]
  refine ⟨M'.apart, a2, fun a ha b hb hab => ?_⟩
  subst hab
  obtain ⟨x, hx, rfl⟩ := List.mem_map.1 ha
  rcases (M'.row x hx).2.2 with h | h
  ·exact a3 _ h _ hb rfl
  ·obtain ⟨y, hy, hyx⟩ := List.mem_map.1 hb
   have := (M.row y (List.mem_append_right _ hy)).2.1
   omega
theorem Mem.frameT (M : Mem S h0 h (xs ++ rs)) (M' : Mem (xs.map (·.1)) h h' (ys ++ T)) : Mem S h0 h' (ys ++ (rs ++ T)) := by
 have := M.frame M'
 rw [List.append_assoc] at this
 exact this.perm (List.Perm.append_left ys List.perm_append_comm)
theorem first_one {e' : TypeId} (k : RowH h b e' l) (hl : l.length = sz) : firstA h sz 1 (.sl b 0 1 sz) = some l := by
 rw [firstA_of_row (Nat.le_refl 1), Nat.one_mul]
 have := k.part (o := 0) (n := l.length) (by omega)
 rw [List.drop_zero, List.take_length] at this
 rw [← hl]
 exact this
theorem Wp.grow {K : AV → AHeap → R} {c : Nat} (M : Mem S h0 h ((c, e, r) :: xs ++ T)) (g : GrowT e sz rows v T) (he : elemOf P t = some e) (hu : notInt P u = true) (hsz : P.cellsOf e = sz) (hfit : fitB P e B = true) (hex : memB e h0.ex = false)
  (hr : r.length = sz) (hr1 : r.all AV.one = true) (hbig : (rows.length + 1) * B ≤ 1000000000) (hbig2 : rows.length + 1 ≤ 1000000000)
  (hk : ∀ v' h' T', GrowT e sz (rows ++ [r]) v' T' → Mem S h0 h' (xs ++ T') → Wp (K v' h') Q) : Wp (Abs.outK (opAppend P h t u v (.sl c 0 1 sz)) K) Q := by
 have kc : RowH h c e r := (M.row (c, e, r) (by simp)).1
 obtain ⟨v', h', T', a1, a2, a3⟩ := Mem.grow (xs := (c, e, r) :: xs) (x := .sl c 0 1 sz) M g he hu hsz hfit hex rfl (first_one kc hr) hr hr1 hbig hbig2
 refine Wp.outK a1 (hk v' h' T' a3 ?_)
 rw [List.cons_append] at a2
 exact a2.pop
end
end
end Go.Proofs.Yteibdplpbcobbaa.Abs
namespace Go.Proofs.Yteibdplpbcobbaa
open Go.RowKit Abs
def plainB (c : Nat) : Bool := decide (32 ≤ c) && decide (c ≤ 126)
def hexV (c : Nat) : Option Nat := if 48 ≤ c ∧ c ≤ 57 then some (c - 48) else if 97 ≤ c ∧ c ≤ 102 then some (c - 87) else none
def at? (u : Bytes) (p : Nat) : Option Nat := (u[p]?).map UInt8.toNat
theorem at?_lt {u : Bytes} {p : Nat} (h : p < u.length) : at? u p = some (u[p]).toNat := by
 unfold at?
 rw [List.getElem?_eq_getElem h]
 rfl
theorem at?_ge {u : Bytes} {p : Nat} (h : u.length ≤ p) : at? u p = none := by
 unfold at?
 rw [List.getElem?_eq_none h]
 rfl
theorem at?_some {u : Bytes} {p c : Nat} (h : at? u p = some c) : ∃ hp : p < u.length, (u[p]).toNat = c := by
 by_cases hp : p < u.length
 ·rw [at?_lt hp] at h
  exact ⟨hp, by simpa using h⟩
 ·rw [at?_ge (by omega)] at h
  cases h
theorem Wp.panK {Q : ARes → AHeap → Prop} {h : AHeap} {t : TypeId} {v : AV} (hq : Q (.panic (.ifc t v)) h) : Wp (panK (.ifc t v) h) Q := ⟨_, _, rfl, hq⟩
noncomputable def rdP (u : Bytes) (p : Nat) : List AV := [strA u, .int .i64 (p : Int)]
abbrev Rd (h : AHeap) (b : Nat) (u : Bytes) (p : Nat) : Prop := RowH h b 70 (rdP u p)
def PanA (e : Int) (q : Nat) : AV := .ifc 91 (.agg [.int .i64 e, .int .i64 (q : Int)])
theorem bldWrong (e q : Int) : bldS Try.prog 91 [(0, .agg [.int .i64 e, .int .i64 q])] = some [.int .i64 e, .int .i64 q] := by kernel_rfl
def Step (b : Nat) (u : Bytes) (h : AHeap) (x : R) : Except (Int × Nat) (AV × Nat) → Prop
 | .ok (v, p) => ∃ h', x = some (.ret v, h') ∧ Rd h' b u p ∧ Tch [b] h h'
 | .error (e, q) => ∃ h' p, x = some (.panic (PanA e q), h') ∧ Rd h' b u p ∧ Tch [b] h h'
section
variable {n d b p : Nat} {h : AHeap} {u : Bytes} {Q : ARes → AHeap → Prop}
theorem ended_r (k : Rd h b u p) : world n (d + 1) 74 [.ptr b 0] h = some (.ret (.bool (decide (p = u.length))), h) := by
 apply Wp.eq
 rw [w_pattern_reader_ended]
 unfold pattern_reader_ended
 have ll := lenS_nat u
 repeat (first | (with_reducible refine Wp.lett ?_) | ((with_reducible apply Wp.obind); first | (with_reducible first | exact avInt_int _ _ | exact avStr_str _ | exact nilC_ptr _ _ | exact fldP_ptr _ _ _) | ((with_reducible apply RowH.cell'); (with_reducible assumption); rfl)))
 refine Wp.ret ⟨?_, rfl⟩
 by_cases hp : p = u.length
 ·rw [beq_t (by omega), decide_eq_true hp]
 ·rw [beq_f (by omega), decide_eq_false hp]
theorem refuse_r (e : Int) (q : Nat) : world n (d + 1) 57 [.int .i64 e, .int .i64 (q : Int)] h = some (.panic (PanA e q), h) := by
 rw [w_pattern_refuse]
 refine (congrArg (gcR h) ?_).trans gcR_self
 unfold pattern_refuse
 rw [bldWrong, obind_val]
 rfl
theorem refuseLast_r (k : Rd h b u (p + 1)) (hp : p + 1 ≤ u.length) (hu : u.length ≤ 1000000) : world n (d + 2) 72 [.ptr b 0] h = some (.panic (PanA 6 p), h) := by
 apply Wp.eq
 rw [w_pattern_reader_refuseLast]
 unfold pattern_reader_refuseLast
 have k0 : RowH h b 70 [strA u, .int .i64 ((p + 1 : Nat) : Int)] := k
 clear k
 have hr := refuse_r (n := n) (d := d) (h := h) 6 p
 rw [show (p : Int) = ((p + 1 : Nat) : Int) - 1 by omega] at hr
 repeat (first | ((with_reducible refine Wp.lettw ?_ ?_ ?_); omega; omega) | ((with_reducible apply Wp.obind); first | (with_reducible first | exact avInt_int _ _ | exact nilC_ptr _ _ | exact fldP_ptr _ _ _) | ((with_reducible apply RowH.cell'); (with_reducible assumption); rfl)))
 exact Wp.callP hr ⟨rfl, rfl⟩
theorem sees_r (k : Rd h b u p) (hp : p ≤ u.length) (c : Nat) : world n (d + 2) 68 [.ptr b 0, .int .u8 (c : Int)] h = some (.ret (.bool (decide (at? u p = some c))), h) := by
 apply Wp.eq
 rw [w_pattern_reader_sees]
 unfold pattern_reader_sees
 have he := ended_r (n := n) (d := d) k
 by_cases hl : p = u.length
 ·rw [decide_eq_true hl] at he
  rw [at?_ge (by omega)]
  repeat (first | (with_reducible refine Wp.join1 (fun _ _ => ?_)) | (with_reducible refine Wp.lett ?_) | ((with_reducible apply Wp.obind); (with_reducible exact avBool_bool _)) | ((with_reducible refine Wp.iff ?_ ?_); (with_reducible exact Bool.not_true)) | ((with_reducible apply Wp.callN); (with_reducible assumption)) | (with_reducible refine Wp.go1 (by assumption) ?_))
  exact Wp.ret ⟨rfl, rfl⟩
 ·rw [decide_eq_false hl] at he
  have hx := idxS_nat (l := u) (i := p) (by omega)
  rw [at?_lt (by omega)]
  repeat (first | (with_reducible refine Wp.join1 (fun _ _ => ?_)) | (with_reducible refine Wp.lett ?_) | ((with_reducible apply Wp.obind); first | (with_reducible first | exact hx | exact avInt_int _ _ | exact avBool_bool _ | exact avStr_str _ | exact nilC_ptr _ _ | exact fldP_ptr _ _ _) | ((with_reducible apply RowH.cell'); (with_reducible assumption); rfl)) | ((with_reducible refine Wp.ift ?_ ?_); (with_reducible exact Bool.not_false)) | ((with_reducible apply Wp.callN); (with_reducible assumption)) | (with_reducible refine Wp.go1 (by assumption) ?_))
  refine Wp.ret ⟨?_, rfl⟩
  by_cases hc : (u[p]'(by omega)).toNat = c
  ·rw [beq_t (by omega), decide_eq_true (by rw [hc])]
  ·rw [beq_f (by omega), decide_eq_false (fun hh => hc (by simpa using hh))]
theorem skips_r (k : Rd h b u p) (hb : b < h.next) (hp : p ≤ u.length) (hu : u.length ≤ 1000000) (c : Nat) : Step b u h (world n (d + 3) 55 [.ptr b 0, .int .u8 (c : Int)] h) (.ok (.bool (decide (at? u p = some c)), if at? u p = some c then p + 1 else p)) := by
 apply Wp.ex
 rw [w_pattern_reader_skips]
 unfold pattern_reader_skips
 have hs := sees_r (n := n) (d := d) k hp c
 have Mx := Mem.one k hb
 by_cases hc : at? u p = some c
 ·rw [decide_eq_true hc] at hs ⊢
  rw [if_pos hc]
  repeat (first | ((with_reducible apply Wp.obind); (with_reducible first | exact avInt_int _ _ | exact avBool_bool _ | exact nilC_ptr _ _ | exact fldP_ptr _ _ _)) | ((with_reducible apply Wp.ld0 Mx); rfl) | ((with_reducible apply Wp.ms0 Mx); exact Nat.le_of_ble_eq_true rfl; rfl; intro _ Mz; clear Mx; have Mx := Mz; clear Mz) | ((with_reducible refine Wp.lettw ?_ ?_ ?_); omega; omega) | (with_reducible refine Wp.lett ?_) | ((with_reducible refine Wp.iff ?_ ?_); (with_reducible exact Bool.not_true)) | ((with_reducible apply Wp.callN); (with_reducible assumption)))
  have e : (rdP u p).set (0 + 1) (.int .i64 ((p : Int) + 1)) = rdP u (p + 1) := by
   rw [show (p : Int) + 1 = ((p + 1 : Nat) : Int) by omega]
   rfl
  rw [e] at Mx
  exact Wp.ret ⟨rfl, Mx.at0.1, Mx.tch⟩
 ·rw [decide_eq_false hc] at hs ⊢
  rw [if_neg hc]
  repeat (first | (with_reducible refine Wp.lett ?_) | ((with_reducible apply Wp.obind); (with_reducible exact avBool_bool _)) | ((with_reducible refine Wp.ift ?_ ?_); (with_reducible exact Bool.not_false)) | ((with_reducible apply Wp.callN); (with_reducible assumption)))
  exact Wp.ret ⟨rfl, k, Tch.refl _ _⟩
theorem next_r (k : Rd h b u p) (hb : b < h.next) (hp : p ≤ u.length) (hu : u.length ≤ 1000000) : Step b u h (world n (d + 2) 71 [.ptr b 0] h) (match at? u p with
  | some c => .ok (.int .u8 (c : Int), p + 1)
  | none => .error (6, p)) := by
 have he := ended_r (n := n) (d := d) k
 by_cases hl : p = u.length
 ·rw [at?_ge (by omega)]
  rw [decide_eq_true hl] at he
  refine ⟨h, p, ?_, k, Tch.refl _ _⟩
  have hr := refuse_r (n := n) (d := d) (h := h) 6 p
  have : Wp (world n (d + 2) 71 [.ptr b 0] h) fun r h' => r = .panic (PanA 6 p) ∧ h' = h := by
   rw [w_pattern_reader_next]
   unfold pattern_reader_next
   repeat (first | (with_reducible refine Wp.join0 (fun _ _ => ?_)) | ((with_reducible apply Wp.obind); first | (with_reducible first | exact avInt_int _ _ | exact avBool_bool _ | exact nilC_ptr _ _ | exact fldP_ptr _ _ _) | ((with_reducible apply RowH.cell'); (with_reducible assumption); rfl)) | ((with_reducible refine Wp.ift ?_ ?_); (with_reducible rfl)) | ((with_reducible first | apply Wp.callN | apply Wp.callK); (with_reducible assumption)))
   exact Wp.callP hr ⟨rfl, rfl⟩
  exact this.eq
 ·rw [decide_eq_false hl] at he
  rw [at?_lt (by omega)]
  show ∃ h', _ ∧ _
  apply Wp.ex
  rw [w_pattern_reader_next]
  unfold pattern_reader_next
  have Mx := Mem.one k hb
  have hx := idxS_nat (l := u) (i := p) (by omega)
  repeat (first | ((with_reducible apply Wp.obind); (with_reducible first | exact avInt_int _ _ | exact avBool_bool _ | exact avStr_str _ | exact nilC_ptr _ _ | exact fldP_ptr _ _ _)) | ((with_reducible apply Wp.ld0 Mx); rfl) | ((with_reducible apply Wp.ms0 Mx); exact Nat.le_of_ble_eq_true rfl; rfl; intro _ Mz; clear Mx; have Mx := Mz; clear Mz) | (with_reducible refine Wp.join0 (fun _ _ => ?_)) | ((with_reducible refine Wp.lettw ?_ ?_ ?_); omega; omega) | ((with_reducible refine Wp.iff ?_ ?_); (with_reducible rfl)) | ((with_reducible apply Wp.callN); (with_reducible assumption)) | (with_reducible refine Wp.go0 (by assumption) ?_))
  have e : (rdP u p).set (0 + 1) (.int .i64 ((p : Int) + 1)) = rdP u (p + 1) := by
   rw [show (p : Int) + 1 = ((p + 1 : Nat) : Int) by omega]
   rfl
  rw [e] at Mx
  have e2 : ((p : Int) + 1) - 1 = (p : Int) := by omega
  rw [e2]
  repeat (((with_reducible apply Wp.obind); (with_reducible exact hx)))
  exact Wp.ret ⟨rfl, Mx.at0.1, Mx.tch⟩
end
def addW (w : List Nat) (c : Nat) : List Nat := w.set (c / 64) (w.getD (c / 64) 0 ||| 2 ^ (c % 64))
def spanW (w : List Nat) (lo : Nat) : Nat → List Nat
 | 0 => w
 | m + 1 => spanW (addW w lo) (lo + 1) m
def othersW (w : List Nat) : List Nat := w.map fun x => x ^^^ 18446744073709551615
def zeroW : List Nat := [0, 0, 0, 0]
structure WordsOk (w : List Nat) : Prop where
 len : w.length = 4
 small : ∀ x ∈ w, x < 18446744073709551616
theorem WordsOk.get {w : List Nat} (k : WordsOk w) (i : Nat) : w.getD i 0 < 18446744073709551616 := by
 rw [List.getD_eq_getElem?_getD]
 cases hx : w[i]? with
 | none => decide
 | some x => exact k.small x (List.mem_of_getElem? hx)
theorem zeroW_ok : WordsOk zeroW := ⟨rfl, by decide⟩
theorem or_small {a b : Nat} (ha : a < 18446744073709551616) (hb : b < 18446744073709551616) : a ||| b < 18446744073709551616 := by
 have := Nat.or_lt_two_pow (n := 64) (x := a) (y := b) (by omega) (by omega)
 omega
theorem pow_small {k : Nat} (h : k < 64) : 2 ^ k < 18446744073709551616 := by
 have := Nat.pow_lt_pow_right (a := 2) (by decide) h
 omega
theorem addW_ok {w : List Nat} (k : WordsOk w) (c : Nat) : WordsOk (addW w c) := by
 refine ⟨by simp [addW, k.len], fun x hx => ?_⟩
 unfold addW at hx
 rcases List.mem_or_eq_of_mem_set hx with hx | rfl
 ·exact k.small x hx
 ·exact or_small (k.get _) (pow_small (Nat.mod_lt _ (by decide)))
theorem spanW_ok : ∀ (m : Nat) {w : List Nat} (_ : WordsOk w) (lo : Nat), WordsOk (spanW w lo m)
 | 0, _, k, _ => k
 | m + 1, _, k, lo => spanW_ok m (addW_ok k lo) (lo + 1)
theorem othersW_ok {w : List Nat} (k : WordsOk w) : WordsOk (othersW w) := by
 refine ⟨by simp [othersW, k.len], fun x hx => ?_⟩
 unfold othersW at hx
 obtain ⟨y, hy, rfl⟩ := List.mem_map.1 hx
 have := Nat.xor_lt_two_pow (n := 64) (x := y) (y := 18446744073709551615) (by have := k.small y hy; omega) (by omega)
 omega
noncomputable def wordsA (w : List Nat) : List AV := w.map fun (x : Nat) => AV.int .u64 (x : Int)
theorem wordsA_len (w : List Nat) : (wordsA w).length = w.length := by simp [wordsA]
theorem wordsA_one (w : List Nat) : (wordsA w).all AV.one = true := by
 simp only [wordsA, List.all_map, List.all_eq_true]
 intro x _
 rfl
inductive Nd where
 | mk (op : Nat) (w : List Nat) (kids : List Nd)
abbrev TNode : Nat := 41
noncomputable def nodeC (op : Nat) (w : List Nat) (kv : AV) : List AV := .int .i64 (op : Int) :: (wordsA w ++ [kv])
mutual
inductive NodeT : Nd → List AV → List RowT → Prop
 | mk {op : Nat} {w : List Nat} {kids : List Nd} {kc : List (List AV)} {kv : AV} {T0 T1 : List RowT} (hw : WordsOk w) (g : GrowT TNode 6 kc kv T0) (k : KidsT kids kc T1) : NodeT (.mk op w kids) (nodeC op w kv) (T0 ++ T1)
inductive KidsT : List Nd → List (List AV) → List RowT → Prop
 | nil : KidsT [] [] []
 | cons {t : Nd} {c : List AV} {T : List RowT} {ts : List Nd} {cs : List (List AV)} {Ts : List RowT} (k : NodeT t c T) (ks : KidsT ts cs Ts) : KidsT (t :: ts) (c :: cs) (T ++ Ts)
end
theorem KidsT.snoc {t : Nd} {c : List AV} {T : List RowT} (h : NodeT t c T) : ∀ {ts : List Nd} {cs : List (List AV)} {Ts : List RowT}, KidsT ts cs Ts → KidsT (ts ++ [t]) (cs ++ [c]) (Ts ++ T)
 | _, _, _, .nil => by
  have := KidsT.cons h .nil
  rw [List.append_nil] at this
  exact this
 | _, _, _, .cons k ks => by
  have := KidsT.cons k (KidsT.snoc h ks)
  rw [← List.append_assoc] at this
  exact this
theorem KidsT.len : ∀ {ts : List Nd} {cs : List (List AV)} {Ts : List RowT}, KidsT ts cs Ts → cs.length = ts.length
 | _, _, _, .nil => rfl
 | _, _, _, .cons _ ks => by rw [List.length_cons, List.length_cons, ks.len]
theorem KidsT.one {t : Nd} {cs : List (List AV)} {Ts : List RowT} (h : KidsT [t] cs Ts) : ∃ c, cs = [c] ∧ NodeT t c Ts := by
 cases h with
 | cons k ks =>
  cases ks
  refine ⟨_, rfl, ?_⟩
  rw [List.append_nil]
  exact k
theorem NodeT.len {t : Nd} {c : List AV} {T : List RowT} (h : NodeT t c T) : c.length = 6 := by
 cases h with
 | mk hw g k => simp [nodeC, wordsA_len, hw.len]
theorem NodeT.one {t : Nd} {c : List AV} {T : List RowT} (h : NodeT t c T) : c.all AV.one = true := by
 cases h with
 | mk hw g k =>
  simp only [nodeC, List.all_cons, List.all_append, wordsA_one, g.one.1, List.all_nil, Bool.and_true]
  rfl
theorem NodeT.leaf (op : Nat) {w : List Nat} (hw : WordsOk w) : NodeT (.mk op w []) (nodeC op w .nsl) [] := NodeT.mk (T0 := []) (T1 := []) hw (GrowT.nil _ _) .nil
def oneN (c : Nat) : Nd := .mk 2 (spanW zeroW c 1) []
def anyW : List Nat := spanW zeroW 0 256
theorem anyW_ok : WordsOk anyW := spanW_ok 256 zeroW_ok 0
theorem anyW_eq : spanW zeroW 0 (255 + 1 - 0) = anyW := rfl
attribute [irreducible] anyW
def anyN : Nd := .mk 2 anyW []
def overN (op : Nat) (l : List Nd) : Nd := .mk op zeroW l
def joinN (op : Nat) : List Nd → Nd
 | [] => .mk 1 zeroW []
 | [t] => t
 | l => overN op l
def memB2 (u : Bytes) (i : Nat) : Except Nat (Nat × Nat) := match at? u i with
 | none => .error i
 | some c => if c = 92 then (match at? u (i + 1) with
   | none => .error (i + 1)
   | some e => .ok (e, i + 2))
  else if c = 91 ∨ c = 93 ∨ c = 94 ∨ c = 45 then .error i else .ok (c, i + 1)
def memberF (u : Bytes) (w : List Nat) (i : Nat) : Except Nat (List Nat × Nat) := match memB2 u i with
 | .error q => .error q
 | .ok (c, j) => if at? u j = some 45 then (match memB2 u (j + 1) with
   | .error q => .error q
   | .ok (e, k) => if e < c then .error (k - 1) else .ok (spanW w c (e + 1 - c), k))
  else .ok (spanW w c 1, j)
inductive LoopP (u : Bytes) : List Nat → Nat → Except Nat (List Nat × Nat) → Prop
 | done {w : List Nat} {j : Nat} (n : at? u j = some 93) : LoopP u w j (.ok (w, j + 1))
 | bad {w : List Nat} {j q : Nat} (n : at? u j ≠ some 93) (h : memberF u w j = .error q) : LoopP u w j (.error q)
 | more {w w' : List Nat} {j k : Nat} {r : Except Nat (List Nat × Nat)} (n : at? u j ≠ some 93) (h : memberF u w j = .ok (w', k)) (m : LoopP u w' k r) : LoopP u w j r
def setB (u : Bytes) (i : Nat) : Nat := if at? u i = some 94 then i + 1 else i
def othersR (u : Bytes) (i : Nat) : Except Nat (List Nat × Nat) → Except Nat (List Nat × Nat)
 | .ok (w, j) => .ok (if at? u i = some 94 then othersW w else w, j)
 | .error q => .error q
inductive SetP (u : Bytes) (i : Nat) : Except Nat (List Nat × Nat) → Prop
 | bad {q : Nat} (h : memberF u zeroW (setB u i) = .error q) : SetP u i (.error q)
 | set {w : List Nat} {j : Nat} {r : Except Nat (List Nat × Nat)} (h : memberF u zeroW (setB u i) = .ok (w, j)) (m : LoopP u w j r) : SetP u i (othersR u i r)
def signOp : Nat → Nat
 | 42 => 5
 | 43 => 6
 | 63 => 7
 | _ => 0
def signAt (u : Bytes) (j : Nat) : Nat := match at? u j with
 | some c => signOp c
 | none => 0
def badAtom (c : Nat) : Prop := c = 124 ∨ c = 41 ∨ c = 42 ∨ c = 43 ∨ c = 63 ∨ c = 93
def stops (u : Bytes) (i : Nat) : Prop := at? u i = none ∨ at? u i = some 124 ∨ at? u i = some 41
abbrev Res := Except Nat (Nd × Nat)
mutual
inductive AltP (u : Bytes) : List Nd → Nat → Res → Prop
 | bad {l : List Nd} {i q : Nat} (h : RowP u [] i (.error q)) : AltP u l i (.error q)
 | last {l : List Nd} {i j : Nat} {t : Nd} (h : RowP u [] i (.ok (t, j))) (n : at? u j ≠ some 124) : AltP u l i (.ok (joinN 4 (l ++ [t]), j))
 | more {l : List Nd} {i j : Nat} {t : Nd} {r : Res} (h : RowP u [] i (.ok (t, j))) (n : at? u j = some 124) (m : AltP u (l ++ [t]) (j + 1) r) : AltP u l i r
inductive RowP (u : Bytes) : List Nd → Nat → Res → Prop
 | stop {l : List Nd} {i : Nat} (s : stops u i) : RowP u l i (.ok (joinN 3 l, i))
 | bad {l : List Nd} {i q : Nat} (s : ¬ stops u i) (h : PartP u i (.error q)) : RowP u l i (.error q)
 | more {l : List Nd} {i j : Nat} {t : Nd} {r : Res} (s : ¬ stops u i) (h : PartP u i (.ok (t, j))) (m : RowP u (l ++ [t]) j r) : RowP u l i r
inductive PartP (u : Bytes) : Nat → Res → Prop
 | bad {i q : Nat} (h : AtomP u i (.error q)) : PartP u i (.error q)
 | bare {i j : Nat} {t : Nd} (h : AtomP u i (.ok (t, j))) (n : signAt u j = 0) : PartP u i (.ok (t, j))
 | sign {i j : Nat} {t : Nd} (h : AtomP u i (.ok (t, j))) (n : signAt u j ≠ 0) : PartP u i (.ok (overN (signAt u j) [t], j + 1))
inductive AtomP (u : Bytes) : Nat → Res → Prop
 | none {i : Nat} (h : at? u i = none) : AtomP u i (.error i)
 | open_bad {i q : Nat} (h : at? u i = some 40) (m : AltP u [] (i + 1) (.error q)) : AtomP u i (.error q)
 | open_end {i j : Nat} {t : Nd} (h : at? u i = some 40) (m : AltP u [] (i + 1) (.ok (t, j))) (n : at? u j ≠ some 41) : AtomP u i (.error j)
 | group {i j : Nat} {t : Nd} (h : at? u i = some 40) (m : AltP u [] (i + 1) (.ok (t, j))) (n : at? u j = some 41) : AtomP u i (.ok (t, j + 1))
 | any {i : Nat} (h : at? u i = some 46) : AtomP u i (.ok (anyN, i + 1))
 | set_bad {i q : Nat} (h : at? u i = some 91) (m : SetP u (i + 1) (.error q)) : AtomP u i (.error q)
 | set {i j : Nat} {w : List Nat} (h : at? u i = some 91) (m : SetP u (i + 1) (.ok (w, j))) : AtomP u i (.ok (.mk 2 w [], j))
 | sl_end {i : Nat} (h : at? u i = some 92) (n : at? u (i + 1) = Option.none) : AtomP u i (.error (i + 1))
 | sl {i c : Nat} (h : at? u i = some 92) (n : at? u (i + 1) = some c) : AtomP u i (.ok (oneN c, i + 2))
 | bad {i c : Nat} (h : at? u i = some c) (b : badAtom c) : AtomP u i (.error i)
 | one {i c : Nat} (h : at? u i = some c) (b : ¬ badAtom c) (n : c ≠ 40 ∧ c ≠ 46 ∧ c ≠ 91 ∧ c ≠ 92) : AtomP u i (.ok (oneN c, i + 1))
end
def StepN (b : Nat) (u : Bytes) (h : AHeap) (x : R) : Res → Prop
 | .ok (t, p) => ∃ c T h', x = some (.ret (.agg c), h') ∧ NodeT t c T ∧ Mem [b] h h' ((b, 70, rdP u p) :: T)
 | .error q => ∃ h' p, x = some (.panic (PanA 6 q), h') ∧ Rd h' b u p ∧ Tch [b] h h'
theorem orI_nat {x y : Nat} (hx : x < 18446744073709551616) (hy : y < 18446744073709551616) : orI .u64 (x : Int) (y : Int) = ((x ||| y : Nat) : Int) := by
 have e : (BitVec.ofInt 64 (x : Int) ||| BitVec.ofInt 64 (y : Int)).toNat = x ||| y := by
  rw [BitVec.toNat_or, BitVec.toNat_ofInt, BitVec.toNat_ofInt]
  congr 1 <;> omega
 unfold orI
 show IntKind.u64.wrap (((BitVec.ofInt 64 (x : Int) ||| BitVec.ofInt 64 (y : Int)).toNat : Nat) : Int) = _
 rw [e, wrap_u64_mod]
 have := or_small hx hy
 omega
theorem xorI_nat {x y : Nat} (hx : x < 18446744073709551616) (hy : y < 18446744073709551616) : xorI .u64 (x : Int) (y : Int) = ((x ^^^ y : Nat) : Int) := by
 have e : (BitVec.ofInt 64 (x : Int) ^^^ BitVec.ofInt 64 (y : Int)).toNat = x ^^^ y := by
  rw [BitVec.toNat_xor, BitVec.toNat_ofInt, BitVec.toNat_ofInt]
  congr 1 <;> omega
 unfold xorI
 show IntKind.u64.wrap (((BitVec.ofInt 64 (x : Int) ^^^ BitVec.ofInt 64 (y : Int)).toNat : Nat) : Int) = _
 rw [e, wrap_u64_mod]
 have := Nat.xor_lt_two_pow (n := 64) (x := x) (y := y) (by omega) (by omega)
 omega
theorem shlI_one {k : Nat} (h : k < 64) : shlI .u64 1 (k : Int) = some ((2 ^ k : Nat) : Int) := by
 unfold shlI
 rw [if_neg (by omega)]
 have e : min ((k : Int).toNat) IntKind.u64.bits = k := by
  show min ((k : Int).toNat) 64 = k
  omega
 rw [e, wrap_u64_mod, Int.one_mul]
 have := pow_small h
 have e2 : ((2 : Int) ^ k) = ((2 ^ k : Nat) : Int) := by push_cast; rfl
 rw [e2]
 generalize 2 ^ k = z at this
 congr 1
 omega
theorem quoI_64 {c : Nat} (h : c < 1000) : quoI .i64 (c : Int) 64 = some ((c / 64 : Nat) : Int) := by
 unfold quoI
 rw [if_neg (by decide), Int.tdiv_eq_ediv_of_nonneg (by omega), wrap_i64 (by omega) (by omega)]
 congr 1
theorem remI_64 {c : Nat} : remI .i64 (c : Int) 64 = some ((c % 64 : Nat) : Int) := by
 unfold remI
 rw [if_neg (by decide), Int.tmod_eq_emod_of_nonneg (by omega)]
 congr 1
theorem idxA_ptr {n b o i : Nat} (h : i < n) : idxA n 1 (.ptr b o) (i : Int) = some (.ptr b (o + i)) := by
 have e : Nat.blt i n = true := by simpa using h
 show (match Nat.blt i n with | true => some (AV.ptr b (o + i * 1)) | false => none) = _
 rw [e, Nat.mul_one]
section
variable {n d b o p : Nat} {h : AHeap} {u : Bytes} {Q : ARes → AHeap → Prop} {pre post : List AV} {w : List Nat} {e : TypeId}
theorem get_words {i : Nat} (hi : i < w.length) : (pre ++ (wordsA w ++ post))[pre.length + i]? = some (.int .u64 (w.getD i 0 : Int)) := by
 rw [List.getElem?_append_right (by omega), show pre.length + i - pre.length = i by omega, List.getElem?_append_left (by rw [wordsA_len]; exact hi)]
 unfold wordsA
 rw [List.getElem?_map, List.getD_eq_getElem?_getD, List.getElem?_eq_getElem hi]
 rfl
theorem set_words {i x : Nat} (hi : i < w.length) : (pre ++ (wordsA w ++ post)).set (pre.length + i) (.int .u64 (x : Int)) = pre ++ (wordsA (w.set i x) ++ post) := by
 rw [List.set_append_right _ _ (by omega), show pre.length + i - pre.length = i by omega, List.set_append_left _ _ (by rw [wordsA_len]; exact hi)]
 unfold wordsA
 rw [List.map_set]
theorem span_loop {k4 : AHeap → R} (hpre : pre.length = o) : ∀ (m f lo : Nat) (w : List Nat) (H : AHeap), m < f → lo + m ≤ 256 → WordsOk w → RowH H b e (pre ++ (wordsA w ++ post)) →
   (∀ H', RowH H' b e (pre ++ (wordsA (spanW w lo m) ++ post)) → Tch [b] H H' → Wp (k4 H') Q) → Wp (pattern_addSpan_L0 (.ptr b o) ((lo + m : Nat) - 1 : Int) k4 f (lo : Int) H) Q
 | _, 0, _, _, _, hf, _, _, _, _ => by omega
 | 0, f + 1, lo, w, H, hf, hm, hw, k, hk => by
  rw [pattern_addSpan_L0_s]
  unfold pattern_addSpan_L0b
  repeat (first | ((with_reducible refine Wp.lettw ?_ ?_ ?_); omega; omega) | (with_reducible refine Wp.lett ?_) | ((with_reducible refine Wp.iff ?_ ?_); ((with_reducible apply decide_eq_false); omega)))
  exact hk H k (Tch.refl _ _)
 | m + 1, f + 1, lo, w, H, hf, hm, hw, k, hk => by
  rw [pattern_addSpan_L0_s]
  unfold pattern_addSpan_L0b
  have hi : lo / 64 < 4 := by omega
  have hl : lo / 64 < w.length := by rw [hw.len]; exact hi
  have hc := get_words (pre := pre) (post := post) hl
  have e1 := quoI_64 (c := lo) (by omega)
  have e2 := idxA_ptr (b := b) (o := o) hi
  have e3 := remI_64 (c := lo)
  have e4 := shlI_one (k := lo % 64) (Nat.mod_lt _ (by decide))
  rw [hpre] at hc
  have e5 := RowH.cell' k hc
  repeat (first | ((with_reducible refine Wp.lettw ?_ ?_ ?_); omega; omega) | (with_reducible refine Wp.lett ?_) | ((with_reducible apply Wp.obind); (with_reducible first | exact e1 | exact e2 | exact e3 | exact e4 | exact e5 | exact avInt_int _ _ | exact nilC_ptr _ _)) | ((with_reducible refine Wp.ift ?_ ?_); ((with_reducible apply decide_eq_true); omega)))
  rw [orI_nat (hw.get _) (pow_small (Nat.mod_lt _ (by decide)))]
  refine Wp.st1 k (by simp [wordsA_len]; omega) rfl fun h' k' t' _ => ?_
  rw [← hpre, set_words hl] at k'
  repeat (((with_reducible refine Wp.lettw ?_ ?_ ?_); omega; omega))
  have eh : ((lo + (m + 1) : Nat) - 1 : Int) = ((lo + 1 + m : Nat) - 1 : Int) := by omega
  have el : (lo : Int) + 1 = ((lo + 1 : Nat) : Int) := by omega
  rw [eh, el]
  exact span_loop hpre m f (lo + 1) (addW w lo) h' (by omega) (by omega) (addW_ok hw lo) k' fun H' k2 t2 => hk H' k2 (t'.trans t2)
theorem addSpan_r (hpre : pre.length = o) (hn : 300 < n) {lo hi : Nat} (h1 : lo ≤ hi) (h2 : hi < 256) (hw : WordsOk w) (k : RowH h b e (pre ++ (wordsA w ++ post))) : ∃ h', world n (d + 1) 84 [.ptr b o, .int .u8 (lo : Int), .int .u8 (hi : Int)] h = some (.ret (.tup []), h') ∧ RowH h' b e (pre ++ (wordsA (spanW w lo (hi + 1 - lo)) ++ post)) ∧ Tch [b] h h' := by
 apply Wp.ex
 rw [w_pattern_addSpan]
 unfold pattern_addSpan
 (((with_reducible refine Wp.lettw ?_ ?_ ?_); omega; omega))
 ((with_reducible refine Wp.join0 (fun _ _ => ?_)))
 rename_i k4 ek4
 have eh : (hi : Int) = ((lo + (hi + 1 - lo) : Nat) - 1 : Int) := by omega
 rw [eh]
 refine span_loop hpre (hi + 1 - lo) n lo w h (by omega) (by omega) hw k fun H' k2 t2 => ?_
 repeat ((with_reducible refine Wp.go0 (by assumption) ?_))
 exact Wp.ret ⟨rfl, k2, t2⟩
end
theorem Step.ok_of {b p : Nat} {u : Bytes} {h : AHeap} {x : R} {v : AV} (k : Wp x fun r h' => r = .ret v ∧ Rd h' b u p ∧ Tch [b] h h') : Step b u h x (.ok (v, p)) := k.ex
theorem Step.err_of {b q : Nat} {e : Int} {u : Bytes} {h : AHeap} {x : R} (k : Wp x fun r h' => r = .panic (PanA e q) ∧ ∃ p, Rd h' b u p ∧ Tch [b] h h') : Step b u h x (.error (e, q)) := by
 obtain ⟨_, h', e1, rfl, p, k1, k2⟩ := k
 exact ⟨h', p, e1, k1, k2⟩
theorem Wp.stepK {b : Nat} {u : Bytes} {h : AHeap} {x : R} {k : AV → AHeap → R} {Q : ARes → AHeap → Prop} {v : AV} {p : Nat} (hx : Step b u h x (.ok (v, p))) (hk : ∀ h', Rd h' b u p → Tch [b] h h' → Wp (k v h') Q) : Wp (callK x k) Q := by
 obtain ⟨h', e, k1, k2⟩ := hx
 exact Wp.callK e (hk h' k1 k2)
theorem Wp.stepN {b : Nat} {u : Bytes} {h : AHeap} {x : R} {k : AV → AHeap → R} {Q : ARes → AHeap → Prop} {v : AV} {p : Nat} (hx : Step b u h x (.ok (v, p))) (hk : ∀ h', Rd h' b u p → Tch [b] h h' → Wp (k v h') Q) : Wp (callN x k) Q := by
 obtain ⟨h', e, k1, k2⟩ := hx
 exact Wp.callN e (hk h' k1 k2)
theorem Wp.stepE {b q : Nat} {e : Int} {u : Bytes} {h : AHeap} {x : R} {k : AV → AHeap → R} {Q : ARes → AHeap → Prop} (hx : Step b u h x (.error (e, q))) (hk : ∀ h' p, Rd h' b u p → Tch [b] h h' → Q (.panic (PanA e q)) h') : Wp (callK x k) Q := by
 obtain ⟨h', p, e1, k1, k2⟩ := hx
 exact Wp.callP e1 (hk h' p k1 k2)
theorem lt_tch {S : List Nat} {h h' : AHeap} {b : Nat} (t : Tch S h h') (hb : b < h.next) : b < h'.next := Nat.lt_of_lt_of_le hb t.1
section
variable {n d b p : Nat} {h : AHeap} {u : Bytes} {Q : ARes → AHeap → Prop}
end
section
variable {n d b c : Nat} {h : AHeap} {l : Bytes} {Q : ARes → AHeap → Prop}
end
section
variable {n d b p : Nat} {h : AHeap} {u : Bytes} {Q : ARes → AHeap → Prop}
theorem take_r (k : Rd h b u p) (hb : b < h.next) (hp : p ≤ u.length) (hu : u.length ≤ 1000000) (c : Nat) : Step b u h (world n (d + 4) 54 [.ptr b 0, .int .u8 (c : Int)] h) (if at? u p = some c then .ok (.tup [], p + 1) else .error (6, p)) := by
 have hs := skips_r (n := n) (d := d) k hb hp hu c
 by_cases hc : at? u p = some c
 ·rw [if_pos hc, decide_eq_true hc] at hs
  rw [if_pos hc]
  refine Step.ok_of ?_
  rw [w_pattern_reader_take]
  unfold pattern_reader_take
  refine Wp.stepN hs fun h' k1 k2 => ?_
  repeat (first | (with_reducible refine Wp.join0 (fun _ _ => ?_)) | (with_reducible refine Wp.lett ?_) | ((with_reducible apply Wp.obind); (with_reducible exact avBool_bool _)) | ((with_reducible refine Wp.iff ?_ ?_); (with_reducible exact Bool.not_true)) | (with_reducible refine Wp.go0 (by assumption) ?_))
  exact Wp.ret ⟨rfl, k1, k2⟩
 ·rw [if_neg hc, decide_eq_false hc] at hs
  rw [if_neg hc]
  refine Step.err_of ?_
  rw [w_pattern_reader_take]
  unfold pattern_reader_take
  refine Wp.stepN hs fun h' k1 k2 => ?_
  have hr := refuse_r (n := n) (d := d + 2) (h := h') 6 p
  repeat (first | (with_reducible refine Wp.join0 (fun _ _ => ?_)) | (with_reducible refine Wp.lett ?_) | ((with_reducible apply Wp.obind); first | (with_reducible first | exact avInt_int _ _ | exact avBool_bool _ | exact nilC_ptr _ _ | exact fldP_ptr _ _ _) | ((with_reducible apply RowH.cell'); (with_reducible assumption); rfl)) | ((with_reducible refine Wp.ift ?_ ?_); (with_reducible exact Bool.not_false)))
  exact Wp.callP hr ⟨rfl, p, k1, k2⟩
end
abbrev TNodes : Nat := 39
theorem wordsA_scal : ∀ (w : List Nat), AV.scalL (wordsA w ++ [.nsl]) = true
 | [] => rfl
 | _ :: w => wordsA_scal w
theorem nodeC_scal (op : Nat) (w : List Nat) : (AV.agg (nodeC op w .nsl)).scal = true := wordsA_scal w
theorem bldOver0 (op : Int) : bldS Try.prog TNode [(0, .int .i64 op), (2, .nsl)] = some [.int .i64 op, .int .u64 0, .int .u64 0, .int .u64 0, .int .u64 0, .nsl] := by kernel_rfl
theorem bldOver1 (op : Int) (c m : Nat) : bldS Try.prog TNode [(0, .int .i64 op), (2, .sl c 0 m 6)] = some [.int .i64 op, .int .u64 0, .int .u64 0, .int .u64 0, .int .u64 0, .sl c 0 m 6] := by kernel_rfl
theorem bldSet (a b c d : Int) : bldS Try.prog TNode [(0, .int .i64 2), (1, .agg [.int .u64 a, .int .u64 b, .int .u64 c, .int .u64 d])] = some [.int .i64 2, .int .u64 a, .int .u64 b, .int .u64 c, .int .u64 d, .nsl] := by kernel_rfl
theorem bldNode (h : AHeap) (op a b c d : Int) (kv : AV) : bldSl Try.prog h TNodes 1 [(0, .agg [.int .i64 op, .int .u64 a, .int .u64 b, .int .u64 c, .int .u64 d, kv])] = outNewS h TNode [.int .i64 op, .int .u64 a, .int .u64 b, .int .u64 c, .int .u64 d, kv] 1 6 := by kernel_rfl
theorem words4 {w : List Nat} (k : WordsOk w) : ∃ a b c d, w = [a, b, c, d] := by
 match w, k.len with
 | [a, b, c, d], _ => exact ⟨a, b, c, d, rfl⟩
theorem NodeT.bld {t : Nd} {c : List AV} {T : List RowT} (k : NodeT t c T) (h : AHeap) : bldSl Try.prog h TNodes 1 [(0, .agg c)] = outNewS h TNode c 1 6 := by
 cases k with
 | mk hw g ks =>
  obtain ⟨a, b, c, d, rfl⟩ := words4 hw
  exact bldNode h _ _ _ _ _ _
theorem setBld {w : List Nat} (k : WordsOk w) : bldS Try.prog TNode [(0, .int .i64 2), (1, .agg (wordsA w))] = some (nodeC 2 w .nsl) := by
 obtain ⟨a, b, c, d, rfl⟩ := words4 k
 exact bldSet _ _ _ _
section
variable {n d b p : Nat} {h h0 : AHeap} {u : Bytes} {Q : ARes → AHeap → Prop} {S : List Nat} {xs T T0 T1 : List RowT} {kc : List (List AV)} {kv : AV} {l : List Nd}
theorem overBld (g : GrowT TNode 6 kc kv T) (op : Nat) : bldS Try.prog TNode [(0, .int .i64 (op : Int)), (2, kv)] = some (nodeC op zeroW kv) := by
 rcases g.2 with ⟨_, rfl, _⟩ | ⟨_, c, rfl, _⟩
 ·exact bldOver0 _
 ·exact bldOver1 _ _ _
theorem nodeC_len {op : Nat} {w : List Nat} (hw : WordsOk w) : (nodeC op w kv).length = 6 := by simp [nodeC, wordsA_len, hw.len]
theorem nodeC_one {op : Nat} {w : List Nat} (hk : kv.one = true) : (nodeC op w kv).all AV.one = true := by
 simp only [nodeC, List.all_cons, List.all_append, wordsA_one, hk, List.all_nil, Bool.and_true]
 rfl
theorem oneByte_w (hn : 300 < n) {c : Nat} (hc : c < 256) : world n (d + 2) 78 [.int .u8 (c : Int)] h = some (.ret (.agg (nodeC 2 (spanW zeroW c 1) .nsl)), h) := by
 apply Wp.eq
 rw [w_pattern_oneByte]
 refine Wp.gc ?_
 suffices hK : Wp (pattern_oneByte (world n (d + 1)) n c h) fun r h' => r = .ret (.agg (nodeC 2 (spanW zeroW c 1) .nsl)) ∧ Tch [] h h' from hK.mono fun r h' ⟨e, t⟩ => ⟨t.above, by rw [e]; exact nodeC_scal _ _, e, rfl⟩
 unfold pattern_oneByte
 have Mx := Mem.nil [] h
 repeat (first | ((with_reducible apply Wp.sa0 Mx); rfl; rfl; (rfl); intro _ Mz; clear Mx; have Mx := Mz; clear Mz) | ((with_reducible apply Wp.mnew Mx); intro _ Mz; clear Mx; have Mx := Mz; clear Mz) | rw [newP_eq])
 have k0 : RowH _ _ _ ([AV.int .i64 2] ++ (wordsA zeroW ++ [.nsl])) := Mx.at0.1
 obtain ⟨h5, e5, k5, t5⟩ := addSpan_r (n := n) (d := d) rfl hn (Nat.le_refl c) hc zeroW_ok k0
 refine Wp.callN e5 ?_
 have Mz := Mem.upd (xs := []) Mx t5 k5
 clear Mx
 have Mx := Mz
 clear Mz k0 k5
 rw [show c + 1 - c = 1 by omega] at Mx
 have ho := nodeC_one (kv := .nsl) (op := 2) (w := spanW zeroW c 1) rfl
 have hl : ([AV.int .i64 2] ++ (wordsA (spanW zeroW c 1) ++ [AV.nsl])).length = 6 := nodeC_len (op := 2) (spanW_ok 1 zeroW_ok c)
 refine Wp.lr0 Mx hl ?_
 refine Wp.sa1 Mx hl rfl ho fun h6 Mz => ?_
 refine Wp.lr1 Mz hl ?_
 exact Wp.ret ⟨rfl, Mz.tch⟩
theorem anyByte_w (hn : 300 < n) : world n (d + 2) 77 [] h = some (.ret (.agg (nodeC 2 (anyW) .nsl)), h) := by
 apply Wp.eq
 rw [w_pattern_anyByte]
 refine Wp.gc ?_
 suffices hK : Wp (pattern_anyByte (world n (d + 1)) n h) fun r h' => r = .ret (.agg (nodeC 2 (anyW) .nsl)) ∧ Tch [] h h' from hK.mono fun r h' ⟨e, t⟩ => ⟨t.above, by rw [e]; exact nodeC_scal _ _, e, rfl⟩
 unfold pattern_anyByte
 have Mx := Mem.nil [] h
 repeat (first | ((with_reducible apply Wp.sa0 Mx); rfl; rfl; (rfl); intro _ Mz; clear Mx; have Mx := Mz; clear Mz) | ((with_reducible apply Wp.mnew Mx); intro _ Mz; clear Mx; have Mx := Mz; clear Mz) | rw [newP_eq])
 have k0 : RowH _ _ _ ([AV.int .i64 2] ++ (wordsA zeroW ++ [.nsl])) := Mx.at0.1
 obtain ⟨h5, e5, k5, t5⟩ := addSpan_r (n := n) (d := d) (lo := 0) (hi := 255) rfl hn (by omega) (by omega) zeroW_ok k0
 refine Wp.callN e5 ?_
 have Mz := Mem.upd (xs := []) Mx t5 k5
 clear Mx
 have Mx := Mz
 clear Mz k0 k5
 rw [anyW_eq] at Mx
 have ho := nodeC_one (kv := .nsl) (op := 2) (w := anyW) rfl
 have hl : ([AV.int .i64 2] ++ (wordsA (anyW) ++ [AV.nsl])).length = 6 := nodeC_len (op := 2) anyW_ok
 refine Wp.lr0 Mx hl ?_
 refine Wp.sa1 Mx hl rfl ho fun h6 Mz => ?_
 refine Wp.lr1 Mz hl ?_
 exact Wp.ret ⟨rfl, Mz.tch⟩
theorem over_r (g : GrowT TNode 6 kc kv T) (op : Nat) : ∃ h', world n (d + 1) 76 [.int .i64 (op : Int), kv] h = some (.ret (.agg (nodeC op zeroW kv)), h') ∧ Tch [] h h' := by
 apply Wp.ex
 rw [w_pattern_over]
 unfold pattern_over
 have Mx := Mem.nil [] h
 have hl := nodeC_len (kv := kv) (op := op) zeroW_ok
 have ho := nodeC_one (op := op) (w := zeroW) g.one.1
 have hb := overBld g op
 repeat (first | ((with_reducible apply Wp.lr0 Mx); rfl) | ((with_reducible apply Wp.sa0 Mx); rfl; rfl; ((with_reducible assumption)); intro _ Mz; clear Mx; have Mx := Mz; clear Mz) | ((with_reducible apply Wp.mnew Mx); intro _ Mz; clear Mx; have Mx := Mz; clear Mz) | ((with_reducible apply Wp.obind); (with_reducible exact hb)) | rw [newP_eq])
 exact Wp.ret ⟨rfl, Mx.tch⟩
theorem mem_mid (M : Mem S h0 h (xs ++ (T0 ++ T1))) : Mem S h0 h (xs ++ T1) := Mem.drop (xs := T0) (M.perm (List.perm_append_comm_assoc T0 xs T1))
theorem idx0 (c m : Nat) : idxP 6 (.sl c 0 (m + 1) 6) 0 = some (.ptr c 0) := by
 have := idxP_sl (sz := 6) (b := c) (o := 0) (n := m + 1) (k := 6) (i := 0) (by omega)
 simpa using this
theorem grow_single {c : List AV} (g : GrowT TNode 6 [c] kv T0) : ∃ q, kv = .sl q 0 1 6 ∧ T0 = [(q, TNode, c)] := by
 rcases g.2 with ⟨hh, _⟩ | ⟨_, q, rfl, rfl⟩
 ·cases hh
 ·exact ⟨q, rfl, by simp⟩
theorem inRow_r (Mx : Mem S h0 h (xs ++ (T0 ++ T1))) (g : GrowT TNode 6 kc kv T0) (k : KidsT l kc T1) : ∃ c T h', world n (d + 2) 75 [kv] h = some (.ret (.agg c), h') ∧ NodeT (joinN 3 l) c T ∧ Mem S h0 h' (xs ++ T) := by
 have hkl := k.len
 match l, k, hkl with
 | [], k, hkl =>
  cases k
  rcases g.2 with ⟨_, rfl, rfl⟩ | ⟨hh, _⟩
  ·refine ⟨nodeC 1 zeroW .nsl, [], ?_⟩
   suffices hK : ∃ h', world n (d + 2) 75 [.nsl] h = some (.ret (.agg (nodeC 1 zeroW .nsl)), h') ∧ Mem S h0 h' (xs ++ ([] ++ [])) by
    obtain ⟨h', e, M'⟩ := hK
    exact ⟨h', e, NodeT.leaf 1 zeroW_ok, M'⟩
   apply Wp.ex
   rw [w_pattern_inRow]
   unfold pattern_inRow
   have hlen : lenL .nsl = some 0 := rfl
   repeat (first | ((with_reducible apply Wp.lr0 Mx); rfl) | ((with_reducible apply Wp.sa0 Mx); rfl; rfl; (rfl); intro _ Mz; clear Mx; have Mx := Mz; clear Mz) | ((with_reducible apply Wp.mnew Mx); intro _ Mz; clear Mx; have Mx := Mz; clear Mz) | (with_reducible refine Wp.lett ?_) | ((with_reducible apply Wp.obind); (with_reducible exact hlen)) | ((with_reducible refine Wp.ift ?_ ?_); ((with_reducible apply beq_t); omega)) | rw [newP_eq])
   exact Wp.ret ⟨rfl, Mx.pop⟩
  ·exact absurd rfl hh
 | [t], k, hkl =>
  obtain ⟨c, rfl, kt⟩ := k.one
  obtain ⟨q, rfl, rfl⟩ := grow_single g
  refine ⟨c, T1, ?_⟩
  suffices hK : ∃ h', world n (d + 2) 75 [.sl q 0 1 6] h = some (.ret (.agg c), h') ∧ Mem S h0 h' (xs ++ ([(q, TNode, c)] ++ T1)) by
   obtain ⟨h', e, M'⟩ := hK
   exact ⟨h', e, kt, mem_mid M'⟩
  apply Wp.ex
  rw [w_pattern_inRow]
  unfold pattern_inRow
  have hlen : lenL (.sl q 0 1 6) = some 1 := rfl
  have ei : idxP 6 (.sl q 0 1 6) 0 = some (.ptr q 0) := idx0 q 0
  repeat (first | ((with_reducible apply Wp.mnew Mx); intro _ Mz; clear Mx; have Mx := Mz; clear Mz) | (with_reducible refine Wp.lett ?_) | ((with_reducible apply Wp.obind); (with_reducible first | exact hlen | exact ei)) | ((with_reducible refine Wp.ift ?_ ?_); ((with_reducible apply beq_t); omega)) | ((with_reducible refine Wp.iff ?_ ?_); ((with_reducible apply beq_f); omega)) | rw [newP_eq])
  refine Wp.obind (RowH.ldAll (Mem.at (xs := _ :: xs) Mx).1 kt.len) ?_
  refine Wp.sa0 Mx kt.len rfl kt.one fun h6 Mz => ?_
  refine Wp.lr0 Mz kt.len ?_
  exact Wp.ret ⟨rfl, Mz.pop⟩
 | t :: t' :: ts, k, hkl =>
  refine ⟨nodeC 3 zeroW kv, T0 ++ T1, ?_⟩
  suffices hK : ∃ h', world n (d + 2) 75 [kv] h = some (.ret (.agg (nodeC 3 zeroW kv)), h') ∧ Mem S h0 h' (xs ++ (T0 ++ T1)) by
   obtain ⟨h', e, M'⟩ := hK
   exact ⟨h', e, NodeT.mk zeroW_ok g k, M'⟩
  apply Wp.ex
  rw [w_pattern_inRow]
  unfold pattern_inRow
  have hlen := g.len
  simp only [List.length_cons] at hkl
  have hl := nodeC_len (kv := kv) (op := 3) zeroW_ok
  have ho := nodeC_one (op := 3) (w := zeroW) g.one.1
  repeat (first | ((with_reducible refine Wp.mcall (over_r (n := n) (d := d) g 3) Mx (fun _ Mz _ => ?_)); clear Mx; have Mx := Mz; clear Mz) | ((with_reducible apply Wp.lr0 Mx); rfl) | ((with_reducible apply Wp.sa0 Mx); rfl; rfl; ((with_reducible assumption)); intro _ Mz; clear Mx; have Mx := Mz; clear Mz) | ((with_reducible apply Wp.mnew Mx); intro _ Mz; clear Mx; have Mx := Mz; clear Mz) | (with_reducible refine Wp.lett ?_) | ((with_reducible apply Wp.obind); (with_reducible first | exact hlen | exact avAgg_agg _)) | ((with_reducible refine Wp.iff ?_ ?_); ((with_reducible apply beq_f); omega)) | rw [newP_eq])
  exact Wp.ret ⟨rfl, Mx.pop⟩
end
end Go.Proofs.Yteibdplpbcobbaa
namespace Go.Proofs.Yteibdplpbcobbaa
open Go.RowKit Abs
abbrev TRd : Nat := 70
abbrev TSet : Nat := 38
def byteR : Except Nat (Nat × Nat) → Except (Int × Nat) (AV × Nat)
 | .ok (c, j) => .ok (.int .u8 (c : Int), j)
 | .error q => .error (6, q)
noncomputable def setR : Except Nat (List Nat × Nat) → Except (Int × Nat) (AV × Nat)
 | .ok (w, j) => .ok (.agg (wordsA w), j)
 | .error q => .error (6, q)
section
variable {n d b p q i : Nat} {h h0 : AHeap} {u : Bytes} {Q : ARes → AHeap → Prop} {S : List Nat} {xs : List RowT} {w : List Nat}
theorem at?_256 {c : Nat} (h : at? u i = some c) : c < 256 := by
 obtain ⟨hp, rfl⟩ := at?_some h
 exact UInt8.toNat_lt _
theorem memB2_ok {c j : Nat} (h : memB2 u i = .ok (c, j)) : c < 256 ∧ i < j ∧ j ≤ u.length := by
 unfold memB2 at h
 split at h
 ·cases h
 ·rename_i c' hc
  obtain ⟨hp, _⟩ := at?_some hc
  split at h
  ·split at h
   ·cases h
   ·rename_i e he
    obtain ⟨hp2, _⟩ := at?_some he
    cases h
    exact ⟨at?_256 he, by omega, by omega⟩
  ·split at h
   ·cases h
   ·cases h
    exact ⟨at?_256 hc, by omega, by omega⟩
theorem memB2_bad {q : Nat} (hi : i ≤ u.length) (h : memB2 u i = .error q) : q ≤ u.length := by
 unfold memB2 at h
 split at h
 ·cases h
  exact hi
 ·rename_i c' hc
  obtain ⟨hp, _⟩ := at?_some hc
  split at h
  ·split at h
   ·cases h
    omega
   ·cases h
  ·split at h
   ·cases h
    omega
   ·cases h
theorem memberF_ok {w' : List Nat} {j : Nat} (hw : WordsOk w) (h : memberF u w i = .ok (w', j)) : WordsOk w' ∧ i < j ∧ j ≤ u.length := by
 unfold memberF at h
 split at h
 ·cases h
 ·rename_i c j' h1
  obtain ⟨_, h2, h3⟩ := memB2_ok h1
  split at h
  ·split at h
   ·cases h
   ·rename_i e k h4
    obtain ⟨_, h5, h6⟩ := memB2_ok h4
    split at h
    ·cases h
    ·cases h
     exact ⟨spanW_ok _ hw _, by omega, h6⟩
  ·cases h
   exact ⟨spanW_ok _ hw _, h2, h3⟩
theorem memberF_bad {q : Nat} (hi : i ≤ u.length) (h : memberF u w i = .error q) : q ≤ u.length := by
 unfold memberF at h
 split at h
 ·rename_i h1
  cases h
  exact memB2_bad hi h1
 ·rename_i c j' h1
  split at h
  ·rename_i h45
   obtain ⟨hp, _⟩ := at?_some h45
   split at h
   ·rename_i h4
    cases h
    exact memB2_bad (by omega) h4
   ·rename_i e k h4
    obtain ⟨_, h5, h6⟩ := memB2_ok h4
    split at h
    ·cases h
     omega
    ·cases h
  ·cases h
theorem memberByte_r (k : Rd h b u i) (hb : b < h.next) (hi : i ≤ u.length) (hu : u.length ≤ 1000000) : Step b u h (world n (d + 3) 94 [.ptr b 0] h) (byteR (memB2 u i)) := by
 have hx := next_r (n := n) (d := d) k hb hi hu
 unfold memB2
 cases hc : at? u i with
 | none =>
  rw [hc] at hx
  refine Step.err_of ?_
  rw [w_pattern_reader_memberByte]
  unfold pattern_reader_memberByte
  exact Wp.stepE hx fun h' p' k1 k2 => ⟨rfl, p', k1, k2⟩
 | some c =>
  rw [hc] at hx
  obtain ⟨hp, _⟩ := at?_some hc
  have h256 := at?_256 hc
  by_cases h92 : c = 92
  ·show Step b u h _ (byteR (if c = 92 then _ else _))
   rw [if_pos h92]
   cases he : at? u (i + 1) with
   | none =>
    refine Step.err_of ?_
    rw [w_pattern_reader_memberByte]
    unfold pattern_reader_memberByte
    refine Wp.stepK hx fun h1 k1 t1 => ?_
    have hx2 := next_r (n := n) (d := d) k1 (lt_tch t1 hb) (by omega) hu
    rw [he] at hx2
    repeat (first | (with_reducible refine Wp.lett ?_) | ((with_reducible apply Wp.obind); (with_reducible exact avInt_int _ _)) | ((with_reducible refine Wp.ift ?_ ?_); ((with_reducible apply beq_t); omega)))
    exact Wp.stepE hx2 fun h' p' k2 t2 => ⟨rfl, p', k2, t1.trans t2⟩
   | some e =>
    refine Step.ok_of ?_
    rw [w_pattern_reader_memberByte]
    unfold pattern_reader_memberByte
    refine Wp.stepK hx fun h1 k1 t1 => ?_
    have hx2 := next_r (n := n) (d := d) k1 (lt_tch t1 hb) (by omega) hu
    rw [he] at hx2
    repeat (first | (with_reducible refine Wp.lett ?_) | ((with_reducible apply Wp.obind); (with_reducible exact avInt_int _ _)) | ((with_reducible refine Wp.ift ?_ ?_); ((with_reducible apply beq_t); omega)))
    refine Wp.stepK hx2 fun h2 k2 t2 => ?_
    repeat (((with_reducible apply Wp.obind); (with_reducible exact avInt_int _ _)))
    exact Wp.ret ⟨rfl, k2, t1.trans t2⟩
  ·show Step b u h _ (byteR (if c = 92 then _ else _))
   rw [if_neg h92]
   by_cases hs : c = 91 ∨ c = 93 ∨ c = 94 ∨ c = 45
   ·rw [if_pos hs]
    refine Step.err_of ?_
    rw [w_pattern_reader_memberByte]
    unfold pattern_reader_memberByte
    refine Wp.stepK hx fun h1 k1 t1 => ?_
    have hr := refuseLast_r (n := n) (d := d) k1 (by omega) hu
    rcases hs with hs | hs | hs | hs
    ·repeat (first | (with_reducible first | refine Wp.join0 (fun _ _ => ?_) | refine Wp.join1 (fun _ _ => ?_)) | (with_reducible refine Wp.lett ?_) | ((with_reducible apply Wp.obind); (with_reducible exact avInt_int _ _)) | ((with_reducible refine Wp.ift ?_ ?_); first | (with_reducible rfl) | ((with_reducible apply beq_t); omega)) | ((with_reducible refine Wp.iff ?_ ?_); ((with_reducible apply beq_f); omega)) | (with_reducible refine Wp.go1 (by assumption) ?_))
     exact Wp.callP hr ⟨rfl, _, k1, t1⟩
    ·repeat (first | (with_reducible first | refine Wp.join0 (fun _ _ => ?_) | refine Wp.join1 (fun _ _ => ?_)) | (with_reducible refine Wp.lett ?_) | ((with_reducible apply Wp.obind); (with_reducible exact avInt_int _ _)) | ((with_reducible refine Wp.ift ?_ ?_); first | (with_reducible rfl) | ((with_reducible apply beq_t); omega)) | ((with_reducible refine Wp.iff ?_ ?_); ((with_reducible apply beq_f); omega)) | (with_reducible refine Wp.go1 (by assumption) ?_))
     exact Wp.callP hr ⟨rfl, _, k1, t1⟩
    ·repeat (first | (with_reducible first | refine Wp.join0 (fun _ _ => ?_) | refine Wp.join1 (fun _ _ => ?_)) | (with_reducible refine Wp.lett ?_) | ((with_reducible apply Wp.obind); (with_reducible exact avInt_int _ _)) | ((with_reducible refine Wp.ift ?_ ?_); first | (with_reducible rfl) | ((with_reducible apply beq_t); omega)) | ((with_reducible refine Wp.iff ?_ ?_); ((with_reducible apply beq_f); omega)) | (with_reducible refine Wp.go1 (by assumption) ?_))
     exact Wp.callP hr ⟨rfl, _, k1, t1⟩
    ·have h45 : ((c : Int) == 45) = true := beq_t (by omega)
     repeat (first | (with_reducible first | refine Wp.join0 (fun _ _ => ?_) | refine Wp.join1 (fun _ _ => ?_)) | (with_reducible refine Wp.lett ?_) | ((with_reducible apply Wp.obind); (with_reducible exact avInt_int _ _)) | ((with_reducible refine Wp.ift ?_ ?_); (with_reducible assumption)) | ((with_reducible refine Wp.iff ?_ ?_); ((with_reducible apply beq_f); omega)) | (with_reducible refine Wp.go1 (by assumption) ?_))
     exact Wp.callP hr ⟨rfl, _, k1, t1⟩
   ·rw [if_neg hs]
    refine Step.ok_of ?_
    rw [w_pattern_reader_memberByte]
    unfold pattern_reader_memberByte
    refine Wp.stepK hx fun h1 k1 t1 => ?_
    have h45 : ((c : Int) == 45) = false := beq_f (by omega)
    repeat (first | (with_reducible first | refine Wp.join0 (fun _ _ => ?_) | refine Wp.join1 (fun _ _ => ?_)) | (with_reducible refine Wp.lett ?_) | ((with_reducible apply Wp.obind); (with_reducible exact avInt_int _ _)) | ((with_reducible refine Wp.iff ?_ ?_); first | (with_reducible assumption) | ((with_reducible apply beq_f); omega)) | (with_reducible first | refine Wp.go0 (by assumption) ?_ | refine Wp.go1 (by assumption) ?_))
    exact Wp.ret ⟨rfl, k1, t1⟩
def StepM (S : List Nat) (h0 : AHeap) (xs : List RowT) (b q : Nat) (u : Bytes) (x : R) : Except Nat (List Nat × Nat) → Prop
 | .ok (w', j) => ∃ h', x = some (.ret (.tup []), h') ∧ Mem S h0 h' ((b, TRd, rdP u j) :: (q, TSet, wordsA w') :: xs)
 | .error e => ∃ h' p, x = some (.panic (PanA 6 e), h') ∧ Rd h' b u p ∧ Tch S h0 h'
theorem StepM.ok_of {x : R} {w' : List Nat} {j : Nat} (k : Wp x fun r h' => r = .ret (.tup []) ∧ Mem S h0 h' ((b, TRd, rdP u j) :: (q, TSet, wordsA w') :: xs)) : StepM S h0 xs b q u x (.ok (w', j)) := k.ex
theorem StepM.err_of {x : R} {e : Nat} (k : Wp x fun r h' => r = .panic (PanA 6 e) ∧ ∃ p, Rd h' b u p ∧ Tch S h0 h') : StepM S h0 xs b q u x (.error e) := by
 obtain ⟨_, h', e1, rfl, p, k1, k2⟩ := k
 exact ⟨h', p, e1, k1, k2⟩
theorem addSpan_m (hn : 300 < n) {lo hi : Nat} (h1 : lo ≤ hi) (h2 : hi < 256) (hw : WordsOk w) {y : RowT} (M : Mem S h0 h (y :: (q, TSet, wordsA w) :: xs)) : ∃ h', world n (d + 1) 84 [.ptr q 0, .int .u8 (lo : Int), .int .u8 (hi : Int)] h = some (.ret (.tup []), h') ∧ Mem S h0 h' (y :: (q, TSet, wordsA (spanW w lo (hi + 1 - lo))) :: xs) := by
 have k0 : RowH h q TSet ([] ++ (wordsA w ++ [])) := by
  rw [List.nil_append, List.append_nil]
  exact M.at1.1
 obtain ⟨h', e, k1, t⟩ := addSpan_r (n := n) (d := d) rfl hn h1 h2 hw k0
 rw [List.nil_append, List.append_nil] at k1
 exact ⟨h', e, Mem.upd (xs := [y]) M t k1⟩
theorem member_r (hn : 300 < n) (hw : WordsOk w) (M : Mem S h0 h ((b, TRd, rdP u i) :: (q, TSet, wordsA w) :: xs)) (hi : i ≤ u.length) (hu : u.length ≤ 1000000) : StepM S h0 xs b q u (world n (d + 4) 93 [.ptr b 0, .ptr q 0] h) (memberF u w i) := by
 have hx := memberByte_r (n := n) (d := d) M.at0.1 M.at0.2.1 hi hu
 unfold memberF
 have bS := M.at0.2.2
 have up : ∀ {h1 : AHeap} {p : Nat}, Rd h1 b u p → Tch [b] h h1 → Tch S h0 h1 := fun k t => (Mem.upd (xs := []) M t k).tch
 cases hm : memB2 u i with
 | error e =>
  rw [hm] at hx
  refine StepM.err_of ?_
  rw [w_pattern_reader_member]
  unfold pattern_reader_member
  exact Wp.stepE hx fun h' p' k1 k2 => ⟨rfl, p', k1, up k1 k2⟩
 | ok cj =>
  obtain ⟨c, j⟩ := cj
  rw [hm] at hx
  obtain ⟨c1, c2, c3⟩ := memB2_ok hm
  by_cases h45 : at? u j = some 45
  ·show StepM S h0 xs b q u _ (if at? u j = some 45 then _ else _)
   rw [if_pos h45]
   obtain ⟨hj, _⟩ := at?_some h45
   cases hm2 : memB2 u (j + 1) with
   | error e =>
    refine StepM.err_of ?_
    rw [w_pattern_reader_member]
    unfold pattern_reader_member
    refine Wp.stepK hx fun h1 k1 t1 => ?_
    have hs := skips_r (n := n) (d := d) k1 (lt_tch t1 M.at0.2.1) c3 hu 45
    rw [if_pos h45, decide_eq_true h45] at hs
    repeat (((with_reducible apply Wp.obind); (with_reducible exact avInt_int _ _)))
    refine Wp.stepN hs fun h2 k2 t2 => ?_
    have hx2 := memberByte_r (n := n) (d := d) k2 (lt_tch (t1.trans t2) M.at0.2.1) (by omega) hu
    rw [hm2] at hx2
    repeat (first | (with_reducible refine Wp.join1 (fun _ _ => ?_)) | ((with_reducible apply Wp.obind); (with_reducible exact avBool_bool _)) | ((with_reducible refine Wp.ift ?_ ?_); (with_reducible rfl)))
    exact Wp.stepE hx2 fun h' p' k3 t3 => ⟨rfl, p', k3, up k3 ((t1.trans t2).trans t3)⟩
   | ok ek =>
    obtain ⟨e, k⟩ := ek
    obtain ⟨e1, e2, e3⟩ := memB2_ok hm2
    show StepM S h0 xs b q u _ (if e < c then _ else _)
    by_cases hlt : e < c
    ·rw [if_pos hlt]
     obtain ⟨k', rfl⟩ : ∃ k', k = k' + 1 := ⟨k - 1, by omega⟩
     refine StepM.err_of ?_
     rw [w_pattern_reader_member]
     unfold pattern_reader_member
     refine Wp.stepK hx fun h1 k1 t1 => ?_
     have hs := skips_r (n := n) (d := d) k1 (lt_tch t1 M.at0.2.1) c3 hu 45
     rw [if_pos h45, decide_eq_true h45] at hs
     repeat (((with_reducible apply Wp.obind); (with_reducible exact avInt_int _ _)))
     refine Wp.stepN hs fun h2 k2 t2 => ?_
     have hx2 := memberByte_r (n := n) (d := d) k2 (lt_tch (t1.trans t2) M.at0.2.1) (by omega) hu
     rw [hm2] at hx2
     repeat (first | (with_reducible refine Wp.join1 (fun _ _ => ?_)) | ((with_reducible apply Wp.obind); (with_reducible exact avBool_bool _)) | ((with_reducible refine Wp.ift ?_ ?_); (with_reducible rfl)))
     refine Wp.stepK hx2 fun h3 k3 t3 => ?_
     have hr := refuseLast_r (n := n) (d := d + 1) k3 (by omega) hu
     repeat (first | (with_reducible refine Wp.join0 (fun _ _ => ?_)) | (with_reducible refine Wp.lett ?_) | ((with_reducible apply Wp.obind); (with_reducible exact avInt_int _ _)) | ((with_reducible refine Wp.ift ?_ ?_); ((with_reducible apply decide_eq_true); omega)))
     exact Wp.callP hr ⟨rfl, _, k3, up k3 ((t1.trans t2).trans t3)⟩
    ·rw [if_neg hlt]
     refine StepM.ok_of ?_
     rw [w_pattern_reader_member]
     unfold pattern_reader_member
     refine Wp.stepK hx fun h1 k1 t1 => ?_
     have hs := skips_r (n := n) (d := d) k1 (lt_tch t1 M.at0.2.1) c3 hu 45
     rw [if_pos h45, decide_eq_true h45] at hs
     repeat (((with_reducible apply Wp.obind); (with_reducible exact avInt_int _ _)))
     refine Wp.stepN hs fun h2 k2 t2 => ?_
     have hx2 := memberByte_r (n := n) (d := d) k2 (lt_tch (t1.trans t2) M.at0.2.1) (by omega) hu
     rw [hm2] at hx2
     repeat (first | (with_reducible refine Wp.join1 (fun _ _ => ?_)) | ((with_reducible apply Wp.obind); (with_reducible exact avBool_bool _)) | ((with_reducible refine Wp.ift ?_ ?_); (with_reducible rfl)))
     refine Wp.stepK hx2 fun h3 k3 t3 => ?_
     obtain ⟨h4, e4, M4⟩ := addSpan_m (n := n) (d := d + 2) hn (by omega : c ≤ e) e1 hw (Mem.upd (xs := []) M ((t1.trans t2).trans t3) k3)
     repeat (first | (with_reducible refine Wp.join0 (fun _ _ => ?_)) | (with_reducible refine Wp.lett ?_) | ((with_reducible apply Wp.obind); (with_reducible exact avInt_int _ _)) | ((with_reducible refine Wp.iff ?_ ?_); ((with_reducible apply decide_eq_false); omega)) | ((with_reducible apply Wp.callN); (with_reducible assumption)) | (with_reducible first | refine Wp.go0 (by assumption) ?_ | refine Wp.go1 (by assumption) ?_))
     exact Wp.ret ⟨rfl, M4⟩
  ·show StepM S h0 xs b q u _ (if at? u j = some 45 then _ else _)
   rw [if_neg h45]
   refine StepM.ok_of ?_
   rw [w_pattern_reader_member]
   unfold pattern_reader_member
   refine Wp.stepK hx fun h1 k1 t1 => ?_
   have hs := skips_r (n := n) (d := d) k1 (lt_tch t1 M.at0.2.1) c3 hu 45
   rw [if_neg h45, decide_eq_false h45] at hs
   repeat (((with_reducible apply Wp.obind); (with_reducible exact avInt_int _ _)))
   refine Wp.stepN hs fun h2 k2 t2 => ?_
   obtain ⟨h4, e4, M4⟩ := addSpan_m (n := n) (d := d + 2) hn (Nat.le_refl c) c1 hw (Mem.upd (xs := []) M (t1.trans t2) k2)
   rw [show c + 1 - c = 1 by omega] at M4
   repeat (first | (with_reducible refine Wp.join1 (fun _ _ => ?_)) | ((with_reducible apply Wp.obind); (with_reducible exact avBool_bool _)) | ((with_reducible refine Wp.iff ?_ ?_); (with_reducible rfl)) | ((with_reducible apply Wp.callN); (with_reducible assumption)) | (with_reducible refine Wp.go1 (by assumption) ?_))
   exact Wp.ret ⟨rfl, M4⟩
end
section
variable {n d b p q i : Nat} {h h0 : AHeap} {u : Bytes} {Q : ARes → AHeap → Prop} {S : List Nat} {xs : List RowT} {w : List Nat}
theorem members_loop (hu : u.length ≤ 1000000) : ∀ (k j : Nat) (w : List Nat), j ≤ u.length → u.length - j < k → WordsOk w → ∃ r, LoopP u w j r ∧ (∀ w' j', r = .ok (w', j') → WordsOk w' ∧ j < j' ∧ j' ≤ u.length) ∧ (∀ e, r = .error e → e ≤ u.length) ∧
   ∀ {n d f b q : Nat} {S : List Nat} {h0 H hp0 : AHeap} {xs : List RowT} {k16 : AHeap → R} {Q : ARes → AHeap → Prop}, newP hp0 = .ptr q 0 → u.length - j < f → 300 < n → Mem S h0 H ((b, TRd, rdP u j) :: (q, TSet, wordsA w) :: xs) →
    (∀ w' j' H', r = .ok (w', j') → Mem S h0 H' ((b, TRd, rdP u j') :: (q, TSet, wordsA w') :: xs) → Wp (k16 H') Q) →
    (∀ e p H', r = .error e → Rd H' b u p → Tch S h0 H' → Q (.panic (PanA 6 e)) H') →
    Wp (pattern_reader_members_L1 (world n (d + 4)) (.ptr b 0) hp0 k16 f H) Q
 | 0, _, _, _, hk, _ => by omega
 | k + 1, j, w, hj, hk, hw => by
  by_cases h93 : at? u j = some 93
  ·obtain ⟨hp, _⟩ := at?_some h93
   refine ⟨.ok (w, j + 1), .done h93, ?_, ?_, ?_⟩
   ·intro w' j' e
    cases e
    exact ⟨hw, by omega, by omega⟩
   ·intro e he
    cases he
   ·intro n d f b q S h0 H hp0 xs k16 Q eq hf hn M hok hbad
    cases f with
    | zero => omega
    | succ f =>
     rw [pattern_reader_members_L1_s]
     unfold pattern_reader_members_L1b
     have hs := skips_r (n := n) (d := d + 1) M.at0.1 M.at0.2.1 hj hu 93
     rw [if_pos h93, decide_eq_true h93] at hs
     refine Wp.stepN hs fun h1 k1 t1 => ?_
     repeat (first | (with_reducible refine Wp.lett ?_) | ((with_reducible apply Wp.obind); (with_reducible exact avBool_bool _)) | ((with_reducible refine Wp.iff ?_ ?_); (with_reducible exact Bool.not_true)))
     exact hok w (j + 1) h1 rfl (Mem.upd (xs := []) M t1 k1)
  ·cases hm : memberF u w j with
   | error e =>
    refine ⟨.error e, .bad h93 hm, ?_, ?_, ?_⟩
    ·intro w' j' e
     cases e
    ·intro e' he
     cases he
     exact memberF_bad hj hm
    ·intro n d f b q S h0 H hp0 xs k16 Q eq hf hn M hok hbad
     cases f with
     | zero => omega
     | succ f =>
      rw [pattern_reader_members_L1_s]
      unfold pattern_reader_members_L1b
      have hs := skips_r (n := n) (d := d + 1) M.at0.1 M.at0.2.1 hj hu 93
      rw [if_neg h93, decide_eq_false h93] at hs
      refine Wp.stepN hs fun h1 k1 t1 => ?_
      have hx := member_r (n := n) (d := d) hn hw (Mem.upd (xs := []) M t1 k1) hj hu
      rw [hm] at hx
      obtain ⟨h2, p2, e2, k2, t2⟩ := hx
      rw [eq]
      repeat (first | (with_reducible refine Wp.lett ?_) | ((with_reducible apply Wp.obind); (with_reducible exact avBool_bool _)) | ((with_reducible refine Wp.ift ?_ ?_); (with_reducible exact Bool.not_false)))
      exact Wp.callP e2 (hbad e p2 h2 rfl k2 t2)
   | ok wj =>
    obtain ⟨w', j'⟩ := wj
    obtain ⟨m1, m2, m3⟩ := memberF_ok hw hm
    obtain ⟨r, r1, r2, r3, r4⟩ := members_loop hu k j' w' m3 (by omega) m1
    refine ⟨r, .more h93 hm r1, ?_, r3, ?_⟩
    ·intro w2 j2 e
     obtain ⟨a1, a2, a3⟩ := r2 w2 j2 e
     exact ⟨a1, by omega, a3⟩
    ·intro n d f b q S h0 H hp0 xs k16 Q eq hf hn M hok hbad
     cases f with
     | zero => omega
     | succ f =>
      rw [pattern_reader_members_L1_s]
      unfold pattern_reader_members_L1b
      have hs := skips_r (n := n) (d := d + 1) M.at0.1 M.at0.2.1 hj hu 93
      rw [if_neg h93, decide_eq_false h93] at hs
      refine Wp.stepN hs fun h1 k1 t1 => ?_
      have hx := member_r (n := n) (d := d) hn hw (Mem.upd (xs := []) M t1 k1) hj hu
      rw [hm] at hx
      obtain ⟨h2, e2, M2⟩ := hx
      rw [eq]
      repeat (first | (with_reducible refine Wp.lett ?_) | ((with_reducible apply Wp.obind); (with_reducible exact avBool_bool _)) | ((with_reducible refine Wp.ift ?_ ?_); (with_reducible exact Bool.not_false)) | ((with_reducible apply Wp.callK); (with_reducible assumption)))
      exact r4 eq (by omega) hn M2 hok hbad
theorem others_loop {hp0 : AHeap} {k29 : AHeap → R} {y : RowT} (eq : newP hp0 = .ptr q 0) : ∀ (v2 v1 : List Nat) (f : Nat) (H : AHeap), v2.length < f → v1.length + v2.length = 4 → (∀ x ∈ v2, x < 18446744073709551616) → Mem S h0 H (y :: (q, TSet, wordsA v1 ++ wordsA v2) :: xs) →
   (∀ H', Mem S h0 H' (y :: (q, TSet, wordsA v1 ++ wordsA (othersW v2)) :: xs) → Wp (k29 H') Q) → Wp (pattern_reader_members_L0 hp0 k29 f ((v1.length : Nat) : Int) H) Q
 | _, _, 0, _, hf, _, _, _, _ => by omega
 | [], v1, f + 1, H, hf, hl, hs, M, hk => by
  rw [pattern_reader_members_L0_s]
  unfold pattern_reader_members_L0b
  rw [List.length_nil] at hl
  repeat (first | (with_reducible refine Wp.lett ?_) | ((with_reducible refine Wp.iff ?_ ?_); ((with_reducible apply decide_eq_false); omega)))
  exact hk H M
 | x :: v2, v1, f + 1, H, hf, hl, hs, M, hk => by
  rw [pattern_reader_members_L0_s]
  unfold pattern_reader_members_L0b
  rw [List.length_cons] at hl hf
  have hx := hs x List.mem_cons_self
  rw [eq]
  have e1 := idxA_ptr (n := 4) (b := q) (o := 0) (i := v1.length) (by omega)
  rw [Nat.zero_add] at e1
  have hlv := wordsA_len v1
  have ho : (wordsA v1 ++ wordsA (x :: v2))[v1.length]? = some (.int .u64 (x : Int)) := by
   rw [List.getElem?_append_right (by omega), hlv, Nat.sub_self]
   rfl
  repeat (first | (with_reducible refine Wp.lett ?_) | ((with_reducible apply Wp.obind); (with_reducible exact e1)) | ((with_reducible refine Wp.ift ?_ ?_); ((with_reducible apply decide_eq_true); omega)))
  refine Wp.ld1 M ho ?_
  repeat (first | (with_reducible refine Wp.lett ?_) | ((with_reducible apply Wp.obind); (with_reducible first | exact e1 | exact avInt_int _ _)))
  rw [show (18446744073709551615 : Int) = ((18446744073709551615 : Nat) : Int) from rfl, xorI_nat hx (by omega)]
  refine Wp.ms1 M (by simp [wordsA_len]) rfl fun H' M' => ?_
  have es : (wordsA v1 ++ wordsA (x :: v2)).set v1.length (.int .u64 ((x ^^^ 18446744073709551615 : Nat) : Int)) = wordsA (v1 ++ [x ^^^ 18446744073709551615]) ++ wordsA v2 := by
   rw [List.set_append_right _ _ (by omega), hlv, Nat.sub_self]
   simp [wordsA]
  rw [es] at M'
  repeat (((with_reducible refine Wp.lettw ?_ ?_ ?_); omega; omega))
  have el : (v1.length : Int) + 1 = (((v1 ++ [x ^^^ 18446744073709551615]).length : Nat) : Int) := by simp
  rw [el]
  refine others_loop eq v2 (v1 ++ [x ^^^ 18446744073709551615]) f H' (by omega) (by simp; omega) (fun z hz => hs z (List.mem_cons_of_mem _ hz)) M' fun H2 M2 => hk H2 ?_
  have e2 : wordsA (v1 ++ [x ^^^ 18446744073709551615]) ++ wordsA (othersW v2) = wordsA v1 ++ wordsA (othersW (x :: v2)) := by simp [wordsA, othersW]
  rw [e2] at M2
  exact M2
theorem members_r (hu : u.length ≤ 1000000) (hi : i ≤ u.length) : ∃ r, SetP u i r ∧ (∀ w j, r = .ok (w, j) → WordsOk w ∧ i < j ∧ j ≤ u.length) ∧ (∀ e, r = .error e → e ≤ u.length) ∧
  ∀ {n d b : Nat} {h : AHeap}, 300 < n → u.length < n → Rd h b u i → b < h.next → Step b u h (world n (d + 5) 91 [.ptr b 0] h) (setR r) := by
 have hb1 : setB u i ≤ u.length ∧ i ≤ setB u i := by
  unfold setB
  by_cases h94 : at? u i = some 94
  ·obtain ⟨hp, _⟩ := at?_some h94
   rw [if_pos h94]
   omega
  ·rw [if_neg h94]
   omega
 cases hm : memberF u zeroW (setB u i) with
 | error e =>
  refine ⟨.error e, .bad hm, ?_, ?_, ?_⟩
  ·intro w j hh
   cases hh
  ·intro e' hh
   cases hh
   exact memberF_bad hb1.1 hm
  ·intro n d b h hn hn2 k hb
   refine Step.err_of ?_
   have hs := fun (h' : AHeap) (k' : Rd h' b u i) (hb' : b < h'.next) => skips_r (n := n) (d := d + 1) k' hb' hi hu 94
   rw [w_pattern_reader_members]
   unfold pattern_reader_members
   have Mx := Mem.one k hb
   repeat (first | ((with_reducible apply Wp.mnew Mx); intro _ Mz; clear Mx; have Mx := Mz; clear Mz) | rw [newP_eq])
   have hs1 := hs _ Mx.at1.1 Mx.at1.2.1
   refine Wp.stepN hs1 fun h1 k1 t1 => ?_
   have Mz := Mem.upd (xs := [_]) Mx t1 k1
   clear Mx
   have Mx := Mz
   clear Mz
   repeat (first | ((with_reducible apply Wp.obind); (with_reducible exact avBool_bool _)) | ((with_reducible apply Wp.mnew Mx); intro _ Mz; clear Mx; have Mx := Mz; clear Mz) | rw [newP_eq])
   have M2 : Mem _ _ _ ((b, TRd, rdP u (setB u i)) :: (h1.next, TSet, wordsA zeroW) :: [_]) := Mx.perm (List.perm_append_comm (l₁ := [_]) (l₂ := [_, _]))
   have hx := member_r (n := n) (d := d) hn zeroW_ok M2 hb1.1 hu
   rw [hm] at hx
   obtain ⟨h2, p2, e2, k2, t2⟩ := hx
   exact Wp.callP e2 ⟨rfl, p2, k2, t2⟩
 | ok wj =>
  obtain ⟨w, j⟩ := wj
  obtain ⟨m1, m2, m3⟩ := memberF_ok zeroW_ok hm
  obtain ⟨r, r1, r2, r3, r4⟩ := members_loop hu (u.length + 1) j w m3 (by omega) m1
  refine ⟨othersR u i r, .set hm r1, ?_, ?_, ?_⟩
  ·intro w' j' hh
   cases r with
   | error e => cases hh
   | ok wj2 =>
    obtain ⟨w2, j2⟩ := wj2
    obtain ⟨a1, a2, a3⟩ := r2 w2 j2 rfl
    cases hh
    refine ⟨?_, by omega, a3⟩
    split
    ·exact othersW_ok a1
    ·exact a1
  ·intro e hh
   cases r with
   | error e' =>
    cases hh
    exact r3 _ rfl
   | ok wj2 => cases hh
  ·intro n d b h hn hn2 k hb
   have main : ∀ Q : ARes → AHeap → Prop, (∀ w' j' H', r = .ok (w', j') → Rd H' b u j' → Tch [b] h H' → Q (.ret (.agg (wordsA (if at? u i = some 94 then othersW w' else w')))) H') → (∀ e p H', r = .error e → Rd H' b u p → Tch [b] h H' → Q (.panic (PanA 6 e)) H') → Wp (world n (d + 5) 91 [.ptr b 0] h) Q := by
    intro Q q1 q2
    have hs := fun (h' : AHeap) (k' : Rd h' b u i) (hb' : b < h'.next) => skips_r (n := n) (d := d + 1) k' hb' hi hu 94
    rw [w_pattern_reader_members]
    unfold pattern_reader_members
    have Mx := Mem.one k hb
    repeat (first | ((with_reducible apply Wp.mnew Mx); intro _ Mz; clear Mx; have Mx := Mz; clear Mz) | rw [newP_eq])
    have hs1 := hs _ Mx.at1.1 Mx.at1.2.1
    refine Wp.stepN hs1 fun h1 k1 t1 => ?_
    have Mz := Mem.upd (xs := [_]) Mx t1 k1
    clear Mx
    have Mx := Mz
    clear Mz
    repeat (first | ((with_reducible apply Wp.obind); (with_reducible exact avBool_bool _)) | ((with_reducible apply Wp.mnew Mx); intro _ Mz; clear Mx; have Mx := Mz; clear Mz) | rw [newP_eq])
    have M2 : Mem _ _ _ ((b, TRd, rdP u (setB u i)) :: (h1.next, TSet, wordsA zeroW) :: [_]) := Mx.perm (List.perm_append_comm (l₁ := [_]) (l₂ := [_, _]))
    have hx := member_r (n := n) (d := d) hn zeroW_ok M2 hb1.1 hu
    rw [hm] at hx
    obtain ⟨h2, e2, M3⟩ := hx
    refine Wp.callK e2 ?_
    ((with_reducible refine Wp.join0 (fun _ _ => ?_)))
    rename_i k16 ek16
    refine r4 (newP_eq h1) (by omega) hn M3 ?_ ?_
    ·intro w' j' H' hr M4
     obtain ⟨a1, a2, a3⟩ := r2 w' j' hr
     ((with_reducible refine Wp.go0 (by assumption) ?_))
     ((with_reducible refine Wp.join0 (fun _ _ => ?_)))
     rename_i k20 ek20
     have fin : ∀ {w2 : List Nat} {H2 : AHeap}, WordsOk w2 → w2 = (if at? u i = some 94 then othersW w' else w') → Mem [b] h H2 ((b, TRd, rdP u j') :: (h1.next, TSet, wordsA w2) :: [(h.next, TSet, [.int .u64 0, .int .u64 0, .int .u64 0, .int .u64 0])]) → Wp (k20 H2) Q := by
      intro w2 H2 o2 ew M5
      have hl : (wordsA w2).length = 4 := by rw [wordsA_len, o2.len]
      refine Wp.go0 ek20 ?_
      refine Wp.lr1 M5 hl ?_
      refine Wp.sa2 M5 hl rfl (wordsA_one _) fun H3 M6 => ?_
      refine Wp.lr2 M6 hl ?_
      rw [ew] at M6 ⊢
      exact Wp.ret (q1 w' j' H3 hr M6.at0.1 M6.tch)
     by_cases h94 : at? u i = some 94
     ·(((with_reducible refine Wp.ift ?_ ?_); ((with_reducible apply decide_eq_true); omega)))
      ((with_reducible refine Wp.join0 (fun _ _ => ?_)))
      rename_i k29 ek29
      have ho := others_loop (S := [b]) (h0 := h) (k29 := k29) (Q := Q) (newP_eq h1) w' [] n H' (by rw [a1.len]; omega) (by rw [a1.len]; rfl) a1.small (by exact M4)
      refine ho fun H2 M5 => ?_
      refine Wp.go0 ek29 ?_
      exact fin (othersW_ok a1) (by rw [if_pos h94]) M5
     ·(((with_reducible refine Wp.iff ?_ ?_); ((with_reducible apply decide_eq_false); omega)))
      exact fin a1 (by rw [if_neg h94]) M4
    ·intro e p H' hr k5 t5
     exact q2 e p H' hr k5 t5
   cases r with
   | error e => exact Step.err_of (main _ (fun w' j' H' hh => by cases hh) fun e' p H' hh k5 t5 => by cases hh; exact ⟨rfl, p, k5, t5⟩)
   | ok wj2 =>
    obtain ⟨w2, j2⟩ := wj2
    exact Step.ok_of (main _ (fun w' j' H' hh k5 t5 => by cases hh; exact ⟨rfl, k5, t5⟩) fun e' p H' hh => by cases hh)
end
def Bnd (u : Bytes) (i : Nat) : Res → Prop
 | .ok (_, j) => i ≤ j ∧ j ≤ u.length
 | .error q => q ≤ u.length
def Bnd1 (u : Bytes) (i : Nat) : Res → Prop
 | .ok (_, j) => i < j ∧ j ≤ u.length
 | .error q => q ≤ u.length
def AltOk (u : Bytes) (m : Nat) : Prop := ∀ i, i ≤ u.length → u.length - i ≤ m → ∃ r, AltP u [] i r ∧ Bnd u i r ∧
 ∀ {n D b : Nat} {h : AHeap}, 4 * m + 9 ≤ D → 300 < n → u.length + 5 < n → Rd h b u i → b < h.next → memB TNode h.ex = false → StepN b u h (world n D 61 [.ptr b 0] h) r
def RowOk (u : Bytes) (m : Nat) : Prop := ∀ i, i ≤ u.length → u.length - i ≤ m → ∃ r, RowP u [] i r ∧ Bnd u i r ∧
 ∀ {n D b : Nat} {h : AHeap}, 4 * m + 8 ≤ D → 300 < n → u.length + 5 < n → Rd h b u i → b < h.next → memB TNode h.ex = false → StepN b u h (world n D 79 [.ptr b 0] h) r
def PartOk (u : Bytes) (m : Nat) : Prop := ∀ i, i ≤ u.length → u.length - i ≤ m → ∃ r, PartP u i r ∧ Bnd1 u i r ∧
 ∀ {n D b : Nat} {h : AHeap}, 4 * m + 7 ≤ D → 300 < n → u.length + 5 < n → Rd h b u i → b < h.next → memB TNode h.ex = false → StepN b u h (world n D 85 [.ptr b 0] h) r
def AtomOk (u : Bytes) (m : Nat) : Prop := ∀ i, i ≤ u.length → u.length - i ≤ m → ∃ r, AtomP u i r ∧ Bnd1 u i r ∧
 ∀ {n D b : Nat} {h : AHeap}, 4 * m + 6 ≤ D → 300 < n → u.length + 5 < n → Rd h b u i → b < h.next → memB TNode h.ex = false → StepN b u h (world n D 88 [.ptr b 0] h) r
section
variable {n d b p q i : Nat} {h h0 : AHeap} {u : Bytes} {Q : ARes → AHeap → Prop} {S : List Nat} {xs rs T : List RowT} {w : List Nat} {x : R} {k : AV → AHeap → R} {t : Nd} {c : List AV} {v : AV}
theorem StepN.ok_of (kk : Wp x fun r h' => ∃ c T, r = .ret (.agg c) ∧ NodeT t c T ∧ Mem [b] h h' ((b, TRd, rdP u p) :: T)) : StepN b u h x (.ok (t, p)) := by
 obtain ⟨_, h', e, c, T, rfl, k1, k2⟩ := kk
 exact ⟨c, T, h', e, k1, k2⟩
theorem StepN.err_of (kk : Wp x fun r h' => r = .panic (PanA 6 q) ∧ ∃ p, Rd h' b u p ∧ Tch [b] h h') : StepN b u h x (.error q) := by
 obtain ⟨_, h', e, rfl, p, k1, k2⟩ := kk
 exact ⟨h', p, e, k1, k2⟩
theorem Wp.nodeK (hx : StepN b u h x (.ok (t, p))) (M : Mem S h0 h ((b, TRd, rdP u i) :: rs)) (hk : ∀ c T h', NodeT t c T → Mem S h0 h' ((b, TRd, rdP u p) :: (rs ++ T)) → Wp (k (.agg c) h') Q) : Wp (callK x k) Q := by
 obtain ⟨c, T, h', e, kt, M'⟩ := hx
 exact Wp.callK e (hk c T h' kt (Mem.frameT (xs := [_]) (ys := [_]) M M'))
theorem Wp.nodeE (hx : StepN b u h x (.error q)) (M : Mem S h0 h ((b, TRd, rdP u i) :: rs)) (hq : ∀ h' p, Rd h' b u p → Tch S h0 h' → Q (.panic (PanA 6 q)) h') : Wp (callK x k) Q := by
 obtain ⟨h', p, e, k1, k2⟩ := hx
 exact Wp.callP e (hq h' p k1 (Mem.upd (xs := []) M k2 k1).tch)
theorem Wp.rdK (hx : Step b u h x (.ok (v, p))) (M : Mem S h0 h ((b, TRd, rdP u i) :: rs)) (hk : ∀ h', Mem S h0 h' ((b, TRd, rdP u p) :: rs) → Wp (k v h') Q) : Wp (callK x k) Q :=
 Wp.stepK hx fun h' k1 t1 => hk h' (Mem.upd (xs := []) M t1 k1)
theorem Wp.rdN (hx : Step b u h x (.ok (v, p))) (M : Mem S h0 h ((b, TRd, rdP u i) :: rs)) (hk : ∀ h', Mem S h0 h' ((b, TRd, rdP u p) :: rs) → Wp (k v h') Q) : Wp (callN x k) Q :=
 Wp.stepN hx fun h' k1 t1 => hk h' (Mem.upd (xs := []) M t1 k1)
theorem Wp.rdE (hx : Step b u h x (.error (6, q))) (M : Mem S h0 h ((b, TRd, rdP u i) :: rs)) (hq : ∀ h' p, Rd h' b u p → Tch S h0 h' → Q (.panic (PanA 6 q)) h') : Wp (callK x k) Q :=
 Wp.stepE hx fun h' p k1 t1 => hq h' p k1 (Mem.upd (xs := []) M t1 k1).tch
theorem fin_node {r0 : Nat} {l : List AV} (M : Mem S h0 h ((b, TRd, rdP u p) :: (r0, TNode, l) :: T)) (hl : l.length = 6) (kt : NodeT t c T) : Wp (obind (stRow h 6 c (.ptr r0 0)) fun h1 => obind (ldRow h1 6 (.ptr r0 0)) fun w => some (.ret (.agg w), h1)) fun r h' => ∃ c T, r = .ret (.agg c) ∧ NodeT t c T ∧ Mem S h0 h' ((b, TRd, rdP u p) :: T) := by
 refine Wp.sa1 M kt.len hl kt.one fun h1 M1 => ?_
 refine Wp.lr1 M1 kt.len ?_
 exact Wp.ret ⟨c, T, rfl, kt, mem_mid (xs := [_]) (T0 := [_]) M1⟩
theorem atom_ok (hu : u.length ≤ 1000000) {m : Nat} (ih : ∀ m', m = m' + 1 → AltOk u m') : AtomOk u m := by
 intro i hi hm
 cases hc : at? u i with
 | none =>
  refine ⟨_, .none hc, hi, ?_⟩
  intro n D b h hD hn hn2 k0 hb hx
  obtain ⟨D, rfl⟩ : ∃ D', D = D' + 6 := ⟨D - 6, by omega⟩
  refine StepN.err_of ?_
  rw [w_pattern_reader_atom]
  unfold pattern_reader_atom
  have Mx := Mem.one k0 hb
  repeat (first | ((with_reducible apply Wp.mnew Mx); intro _ Mz; clear Mx; have Mx := Mz; clear Mz) | rw [newP_eq])
  have M1 := Mx.swap
  have hs := next_r (n := n) (d := D + 3) M1.at0.1 M1.at0.2.1 hi hu
  rw [hc] at hs
  exact Wp.rdE hs M1 fun h' p k1 t1 => ⟨rfl, p, k1, t1⟩
 | some c =>
  obtain ⟨hp, _⟩ := at?_some hc
  have h256 := at?_256 hc
  by_cases h40 : c = 40
  ·subst h40
   obtain ⟨m', rfl⟩ : ∃ m', m = m' + 1 := ⟨m - 1, by omega⟩
   obtain ⟨r, r1, r2, r3⟩ := ih m' rfl (i + 1) (by omega) (by omega)
   cases r with
   | error q =>
    refine ⟨_, .open_bad hc r1, r2, ?_⟩
    intro n D b h hD hn hn2 k0 hb hx
    obtain ⟨D, rfl⟩ : ∃ D', D = D' + 6 := ⟨D - 6, by omega⟩
    refine StepN.err_of ?_
    rw [w_pattern_reader_atom]
    unfold pattern_reader_atom
    have Mx := Mem.one k0 hb
    repeat (first | ((with_reducible apply Wp.mnew Mx); intro _ Mz; clear Mx; have Mx := Mz; clear Mz) | rw [newP_eq])
    have M1 := Mx.swap
    have hs := next_r (n := n) (d := D + 3) M1.at0.1 M1.at0.2.1 hi hu
    rw [hc] at hs
    refine Wp.rdK hs M1 fun h1 M2 => ?_
    have hs2 := r3 (n := n) (D := D + 5) (by omega) hn hn2 M2.at0.1 M2.at0.2.1 (by rw [M2.ex]; exact hx)
    repeat (first | (with_reducible refine Wp.lett ?_) | ((with_reducible apply Wp.obind); (with_reducible exact avInt_int _ _)) | ((with_reducible refine Wp.ift ?_ ?_); ((with_reducible apply beq_t); omega)))
    exact Wp.nodeE hs2 M2 fun h' p k1 t1 => ⟨rfl, p, k1, t1⟩
   | ok tj =>
    obtain ⟨t, j⟩ := tj
    obtain ⟨b1, b2⟩ := r2
    by_cases h41 : at? u j = some 41
    ·obtain ⟨hj, _⟩ := at?_some h41
     refine ⟨_, .group hc r1 h41, ⟨by omega, by omega⟩, ?_⟩
     intro n D b h hD hn hn2 k0 hb hx
     obtain ⟨D, rfl⟩ : ∃ D', D = D' + 6 := ⟨D - 6, by omega⟩
     refine StepN.ok_of ?_
     rw [w_pattern_reader_atom]
     unfold pattern_reader_atom
     have Mx := Mem.one k0 hb
     repeat (first | ((with_reducible apply Wp.mnew Mx); intro _ Mz; clear Mx; have Mx := Mz; clear Mz) | rw [newP_eq])
     have M1 := Mx.swap
     have hs := next_r (n := n) (d := D + 3) M1.at0.1 M1.at0.2.1 hi hu
     rw [hc] at hs
     refine Wp.rdK hs M1 fun h1 M2 => ?_
     have hs2 := r3 (n := n) (D := D + 5) (by omega) hn hn2 M2.at0.1 M2.at0.2.1 (by rw [M2.ex]; exact hx)
     repeat (first | (with_reducible refine Wp.lett ?_) | ((with_reducible apply Wp.obind); (with_reducible exact avInt_int _ _)) | ((with_reducible refine Wp.ift ?_ ?_); ((with_reducible apply beq_t); omega)))
     refine Wp.nodeK hs2 M2 fun c T h2 kt M3 => ?_
     (((with_reducible apply Wp.obind); (with_reducible exact avAgg_agg _)))
     refine Wp.mnew M3 fun h3 M4 => ?_
     rw [newP_eq]
     refine Wp.sa0 M4 kt.len rfl kt.one fun h4 M5 => ?_
     have M6 := M5.swap
     have hs3 := take_r (n := n) (d := D + 1) M6.at0.1 M6.at0.2.1 b2 hu 41
     rw [if_pos h41] at hs3
     refine Wp.rdK hs3 M6 fun h5 M7 => ?_
     refine Wp.lr1 M7 kt.len ?_
     exact fin_node (mem_mid (xs := [_]) (T0 := [_]) M7) rfl kt
    ·refine ⟨_, .open_end hc r1 h41, b2, ?_⟩
     intro n D b h hD hn hn2 k0 hb hx
     obtain ⟨D, rfl⟩ : ∃ D', D = D' + 6 := ⟨D - 6, by omega⟩
     refine StepN.err_of ?_
     rw [w_pattern_reader_atom]
     unfold pattern_reader_atom
     have Mx := Mem.one k0 hb
     repeat (first | ((with_reducible apply Wp.mnew Mx); intro _ Mz; clear Mx; have Mx := Mz; clear Mz) | rw [newP_eq])
     have M1 := Mx.swap
     have hs := next_r (n := n) (d := D + 3) M1.at0.1 M1.at0.2.1 hi hu
     rw [hc] at hs
     refine Wp.rdK hs M1 fun h1 M2 => ?_
     have hs2 := r3 (n := n) (D := D + 5) (by omega) hn hn2 M2.at0.1 M2.at0.2.1 (by rw [M2.ex]; exact hx)
     repeat (first | (with_reducible refine Wp.lett ?_) | ((with_reducible apply Wp.obind); (with_reducible exact avInt_int _ _)) | ((with_reducible refine Wp.ift ?_ ?_); ((with_reducible apply beq_t); omega)))
     refine Wp.nodeK hs2 M2 fun c T h2 kt M3 => ?_
     (((with_reducible apply Wp.obind); (with_reducible exact avAgg_agg _)))
     refine Wp.mnew M3 fun h3 M4 => ?_
     rw [newP_eq]
     refine Wp.sa0 M4 kt.len rfl kt.one fun h4 M5 => ?_
     have M6 := M5.swap
     have hs3 := take_r (n := n) (d := D + 1) M6.at0.1 M6.at0.2.1 b2 hu 41
     rw [if_neg h41] at hs3
     exact Wp.rdE hs3 M6 fun h' p k1 t1 => ⟨rfl, p, k1, t1⟩
  by_cases h46 : c = 46
  ·subst h46
   refine ⟨_, .any hc, ⟨by omega, by omega⟩, ?_⟩
   intro n D b h hD hn hn2 k0 hb hx
   obtain ⟨D, rfl⟩ : ∃ D', D = D' + 6 := ⟨D - 6, by omega⟩
   refine StepN.ok_of ?_
   rw [w_pattern_reader_atom]
   unfold pattern_reader_atom
   have Mx := Mem.one k0 hb
   repeat (first | ((with_reducible apply Wp.mnew Mx); intro _ Mz; clear Mx; have Mx := Mz; clear Mz) | rw [newP_eq])
   have M1 := Mx.swap
   have hs := next_r (n := n) (d := D + 3) M1.at0.1 M1.at0.2.1 hi hu
   rw [hc] at hs
   refine Wp.rdK hs M1 fun h1 M2 => ?_
   repeat (first | (with_reducible refine Wp.lett ?_) | ((with_reducible apply Wp.obind); (with_reducible first | exact avInt_int _ _ | exact avAgg_agg _)) | ((with_reducible refine Wp.ift ?_ ?_); ((with_reducible apply beq_t); omega)) | ((with_reducible refine Wp.iff ?_ ?_); ((with_reducible apply beq_f); omega)) | ((with_reducible apply Wp.callN); (with_reducible exact anyByte_w (d := D + 3) hn)))
   exact fin_node M2 rfl (NodeT.leaf 2 anyW_ok)
  by_cases h91 : c = 91
  ·subst h91
   obtain ⟨r, r1, r2, r2', r3⟩ := members_r hu (i := i + 1) (by omega)
   cases r with
   | error q =>
    refine ⟨_, .set_bad hc r1, r2' q rfl, ?_⟩
    intro n D b h hD hn hn2 k0 hb hx
    obtain ⟨D, rfl⟩ : ∃ D', D = D' + 6 := ⟨D - 6, by omega⟩
    refine StepN.err_of ?_
    rw [w_pattern_reader_atom]
    unfold pattern_reader_atom
    have Mx := Mem.one k0 hb
    repeat (first | ((with_reducible apply Wp.mnew Mx); intro _ Mz; clear Mx; have Mx := Mz; clear Mz) | rw [newP_eq])
    have M1 := Mx.swap
    have hs := next_r (n := n) (d := D + 3) M1.at0.1 M1.at0.2.1 hi hu
    rw [hc] at hs
    refine Wp.rdK hs M1 fun h1 M2 => ?_
    have hs2 := r3 (n := n) (d := D) hn (by omega) M2.at0.1 M2.at0.2.1
    repeat (first | (with_reducible refine Wp.lett ?_) | ((with_reducible apply Wp.obind); (with_reducible exact avInt_int _ _)) | ((with_reducible refine Wp.ift ?_ ?_); ((with_reducible apply beq_t); omega)) | ((with_reducible refine Wp.iff ?_ ?_); ((with_reducible apply beq_f); omega)))
    exact Wp.rdE hs2 M2 fun h' p k1 t1 => ⟨rfl, p, k1, t1⟩
   | ok wj =>
    obtain ⟨w, j⟩ := wj
    obtain ⟨o1, o2, o3⟩ := r2 w j rfl
    refine ⟨_, .set hc r1, ⟨by omega, o3⟩, ?_⟩
    intro n D b h hD hn hn2 k0 hb hx
    obtain ⟨D, rfl⟩ : ∃ D', D = D' + 6 := ⟨D - 6, by omega⟩
    refine StepN.ok_of ?_
    rw [w_pattern_reader_atom]
    unfold pattern_reader_atom
    have Mx := Mem.one k0 hb
    repeat (first | ((with_reducible apply Wp.mnew Mx); intro _ Mz; clear Mx; have Mx := Mz; clear Mz) | rw [newP_eq])
    have M1 := Mx.swap
    have hs := next_r (n := n) (d := D + 3) M1.at0.1 M1.at0.2.1 hi hu
    rw [hc] at hs
    refine Wp.rdK hs M1 fun h1 M2 => ?_
    have hs2 := r3 (n := n) (d := D) hn (by omega) M2.at0.1 M2.at0.2.1
    repeat (first | (with_reducible refine Wp.lett ?_) | ((with_reducible apply Wp.obind); (with_reducible exact avInt_int _ _)) | ((with_reducible refine Wp.ift ?_ ?_); ((with_reducible apply beq_t); omega)) | ((with_reducible refine Wp.iff ?_ ?_); ((with_reducible apply beq_f); omega)))
    refine Wp.rdK hs2 M2 fun h2 M3 => ?_
    have hb2 := setBld o1
    repeat (((with_reducible apply Wp.obind); (with_reducible first | exact hb2 | exact avAgg_agg _)))
    exact fin_node M3 rfl (NodeT.leaf 2 o1)
  by_cases h92 : c = 92
  ·subst h92
   cases he : at? u (i + 1) with
   | none =>
    refine ⟨_, .sl_end hc he, (by show i + 1 ≤ u.length; omega), ?_⟩
    intro n D b h hD hn hn2 k0 hb hx
    obtain ⟨D, rfl⟩ : ∃ D', D = D' + 6 := ⟨D - 6, by omega⟩
    refine StepN.err_of ?_
    rw [w_pattern_reader_atom]
    unfold pattern_reader_atom
    have Mx := Mem.one k0 hb
    repeat (first | ((with_reducible apply Wp.mnew Mx); intro _ Mz; clear Mx; have Mx := Mz; clear Mz) | rw [newP_eq])
    have M1 := Mx.swap
    have hs := next_r (n := n) (d := D + 3) M1.at0.1 M1.at0.2.1 hi hu
    rw [hc] at hs
    refine Wp.rdK hs M1 fun h1 M2 => ?_
    have hs2 := next_r (n := n) (d := D + 3) M2.at0.1 M2.at0.2.1 (by omega) hu
    rw [he] at hs2
    repeat (first | (with_reducible refine Wp.lett ?_) | ((with_reducible apply Wp.obind); (with_reducible exact avInt_int _ _)) | ((with_reducible refine Wp.ift ?_ ?_); ((with_reducible apply beq_t); omega)) | ((with_reducible refine Wp.iff ?_ ?_); ((with_reducible apply beq_f); omega)))
    exact Wp.rdE hs2 M2 fun h' p k1 t1 => ⟨rfl, p, k1, t1⟩
   | some e =>
    obtain ⟨hp2, _⟩ := at?_some he
    refine ⟨_, .sl hc he, ⟨by omega, by omega⟩, ?_⟩
    intro n D b h hD hn hn2 k0 hb hx
    obtain ⟨D, rfl⟩ : ∃ D', D = D' + 6 := ⟨D - 6, by omega⟩
    refine StepN.ok_of ?_
    rw [w_pattern_reader_atom]
    unfold pattern_reader_atom
    have Mx := Mem.one k0 hb
    repeat (first | ((with_reducible apply Wp.mnew Mx); intro _ Mz; clear Mx; have Mx := Mz; clear Mz) | rw [newP_eq])
    have M1 := Mx.swap
    have hs := next_r (n := n) (d := D + 3) M1.at0.1 M1.at0.2.1 hi hu
    rw [hc] at hs
    refine Wp.rdK hs M1 fun h1 M2 => ?_
    have hs2 := next_r (n := n) (d := D + 3) M2.at0.1 M2.at0.2.1 (by omega) hu
    rw [he] at hs2
    repeat (first | (with_reducible refine Wp.lett ?_) | ((with_reducible apply Wp.obind); (with_reducible exact avInt_int _ _)) | ((with_reducible refine Wp.ift ?_ ?_); ((with_reducible apply beq_t); omega)) | ((with_reducible refine Wp.iff ?_ ?_); ((with_reducible apply beq_f); omega)))
    refine Wp.rdK hs2 M2 fun h2 M3 => ?_
    repeat (first | ((with_reducible apply Wp.obind); (with_reducible first | exact avInt_int _ _ | exact avAgg_agg _)) | ((with_reducible apply Wp.callN); (with_reducible exact oneByte_w (d := D + 3) hn (at?_256 he))))
    exact fin_node M3 rfl (NodeT.leaf 2 (spanW_ok 1 zeroW_ok e))
  by_cases hbad : badAtom c
  ·refine ⟨_, .bad hc hbad, hi, ?_⟩
   intro n D b h hD hn hn2 k0 hb hx
   obtain ⟨D, rfl⟩ : ∃ D', D = D' + 6 := ⟨D - 6, by omega⟩
   refine StepN.err_of ?_
   rw [w_pattern_reader_atom]
   unfold pattern_reader_atom
   have Mx := Mem.one k0 hb
   repeat (first | ((with_reducible apply Wp.mnew Mx); intro _ Mz; clear Mx; have Mx := Mz; clear Mz) | rw [newP_eq])
   have M1 := Mx.swap
   have hs := next_r (n := n) (d := D + 3) M1.at0.1 M1.at0.2.1 hi hu
   rw [hc] at hs
   refine Wp.rdK hs M1 fun h1 M2 => ?_
   have hr := refuseLast_r (n := n) (d := D + 3) M2.at0.1 (by omega) hu
   rcases hbad with hs | hs | hs | hs | hs | hs
   ·repeat (first | (with_reducible first | refine Wp.join0 (fun _ _ => ?_) | refine Wp.join1 (fun _ _ => ?_)) | (with_reducible refine Wp.lett ?_) | ((with_reducible apply Wp.obind); (with_reducible exact avInt_int _ _)) | ((with_reducible refine Wp.ift ?_ ?_); first | (with_reducible rfl) | ((with_reducible apply beq_t); omega)) | ((with_reducible refine Wp.iff ?_ ?_); ((with_reducible apply beq_f); omega)) | (with_reducible refine Wp.go1 (by assumption) ?_))
    exact Wp.callP hr ⟨rfl, _, M2.at0.1, M2.tch⟩
   ·repeat (first | (with_reducible first | refine Wp.join0 (fun _ _ => ?_) | refine Wp.join1 (fun _ _ => ?_)) | (with_reducible refine Wp.lett ?_) | ((with_reducible apply Wp.obind); (with_reducible exact avInt_int _ _)) | ((with_reducible refine Wp.ift ?_ ?_); first | (with_reducible rfl) | ((with_reducible apply beq_t); omega)) | ((with_reducible refine Wp.iff ?_ ?_); ((with_reducible apply beq_f); omega)) | (with_reducible refine Wp.go1 (by assumption) ?_))
    exact Wp.callP hr ⟨rfl, _, M2.at0.1, M2.tch⟩
   ·repeat (first | (with_reducible first | refine Wp.join0 (fun _ _ => ?_) | refine Wp.join1 (fun _ _ => ?_)) | (with_reducible refine Wp.lett ?_) | ((with_reducible apply Wp.obind); (with_reducible exact avInt_int _ _)) | ((with_reducible refine Wp.ift ?_ ?_); first | (with_reducible rfl) | ((with_reducible apply beq_t); omega)) | ((with_reducible refine Wp.iff ?_ ?_); ((with_reducible apply beq_f); omega)) | (with_reducible refine Wp.go1 (by assumption) ?_))
    exact Wp.callP hr ⟨rfl, _, M2.at0.1, M2.tch⟩
   ·repeat (first | (with_reducible first | refine Wp.join0 (fun _ _ => ?_) | refine Wp.join1 (fun _ _ => ?_)) | (with_reducible refine Wp.lett ?_) | ((with_reducible apply Wp.obind); (with_reducible exact avInt_int _ _)) | ((with_reducible refine Wp.ift ?_ ?_); first | (with_reducible rfl) | ((with_reducible apply beq_t); omega)) | ((with_reducible refine Wp.iff ?_ ?_); ((with_reducible apply beq_f); omega)) | (with_reducible refine Wp.go1 (by assumption) ?_))
    exact Wp.callP hr ⟨rfl, _, M2.at0.1, M2.tch⟩
   ·repeat (first | (with_reducible first | refine Wp.join0 (fun _ _ => ?_) | refine Wp.join1 (fun _ _ => ?_)) | (with_reducible refine Wp.lett ?_) | ((with_reducible apply Wp.obind); (with_reducible exact avInt_int _ _)) | ((with_reducible refine Wp.ift ?_ ?_); first | (with_reducible rfl) | ((with_reducible apply beq_t); omega)) | ((with_reducible refine Wp.iff ?_ ?_); ((with_reducible apply beq_f); omega)) | (with_reducible refine Wp.go1 (by assumption) ?_))
    exact Wp.callP hr ⟨rfl, _, M2.at0.1, M2.tch⟩
   ·have h93 : ((c : Int) == 93) = true := beq_t (by omega)
    repeat (first | (with_reducible first | refine Wp.join0 (fun _ _ => ?_) | refine Wp.join1 (fun _ _ => ?_)) | (with_reducible refine Wp.lett ?_) | ((with_reducible apply Wp.obind); (with_reducible exact avInt_int _ _)) | ((with_reducible refine Wp.ift ?_ ?_); (with_reducible assumption)) | ((with_reducible refine Wp.iff ?_ ?_); ((with_reducible apply beq_f); omega)) | (with_reducible refine Wp.go1 (by assumption) ?_))
    exact Wp.callP hr ⟨rfl, _, M2.at0.1, M2.tch⟩
  ·refine ⟨_, .one hc hbad ⟨h40, h46, h91, h92⟩, ⟨by omega, by omega⟩, ?_⟩
   intro n D b h hD hn hn2 k0 hb hx
   obtain ⟨D, rfl⟩ : ∃ D', D = D' + 6 := ⟨D - 6, by omega⟩
   refine StepN.ok_of ?_
   rw [w_pattern_reader_atom]
   unfold pattern_reader_atom
   have Mx := Mem.one k0 hb
   repeat (first | ((with_reducible apply Wp.mnew Mx); intro _ Mz; clear Mx; have Mx := Mz; clear Mz) | rw [newP_eq])
   have M1 := Mx.swap
   have hs := next_r (n := n) (d := D + 3) M1.at0.1 M1.at0.2.1 hi hu
   rw [hc] at hs
   refine Wp.rdK hs M1 fun h1 M2 => ?_
   unfold badAtom at hbad
   have h93 : ((c : Int) == 93) = false := beq_f (by omega)
   repeat (first | (with_reducible first | refine Wp.join0 (fun _ _ => ?_) | refine Wp.join1 (fun _ _ => ?_)) | (with_reducible refine Wp.lett ?_) | ((with_reducible apply Wp.obind); (with_reducible first | exact avInt_int _ _ | exact avAgg_agg _)) | ((with_reducible refine Wp.iff ?_ ?_); first | (with_reducible assumption) | ((with_reducible apply beq_f); omega)) | ((with_reducible apply Wp.callN); (with_reducible exact oneByte_w (d := D + 3) hn h256)) | (with_reducible first | refine Wp.go0 (by assumption) ?_ | refine Wp.go1 (by assumption) ?_))
   exact fin_node M2 rfl (NodeT.leaf 2 (spanW_ok 1 zeroW_ok c))
end
section
variable {n d b p q i : Nat} {h h0 : AHeap} {u : Bytes} {Q : ARes → AHeap → Prop} {S : List Nat} {xs rs T : List RowT} {w : List Nat} {x : R} {t : Nd} {c : List AV} {v : AV}
theorem grow_one (c : List AV) (q : Nat) (hl : c.length = 6) (h1 : c.all AV.one = true) : GrowT TNode 6 [c] (.sl q 0 1 6) [(q, TNode, c)] := by
 refine ⟨fun r hr => ?_, .inr ⟨by simp, q, rfl, by simp⟩⟩
 rw [List.mem_singleton] at hr
 subst hr
 exact ⟨hl, h1⟩
theorem signed (kt : NodeT t c T) (op q : Nat) : NodeT (overN op [t]) (nodeC op zeroW (.sl q 0 1 6)) ([(q, TNode, c)] ++ (T ++ [])) :=
 NodeT.mk zeroW_ok (grow_one c q kt.len kt.one) (KidsT.cons kt .nil)
theorem signAt_some {c : Nat} (h : at? u i = some c) : signAt u i = signOp c := by
 unfold signAt
 rw [h]
theorem signAt_none (h42 : at? u i ≠ some 42) (h43 : at? u i ≠ some 43) (h63 : at? u i ≠ some 63) : signAt u i = 0 := by
 unfold signAt
 cases hc : at? u i with
 | none => rfl
 | some c =>
  show signOp c = 0
  rw [hc] at h42 h43 h63
  unfold signOp
  split
  ·exact absurd rfl h42
  ·exact absurd rfl h43
  ·exact absurd rfl h63
  ·rfl
theorem fin_sign {r0 n1 : Nat} {l : List AV} {D op : Nat} (M : Mem S h0 h ((b, TRd, rdP u p) :: (n1, TNode, c) :: (r0, TNode, l) :: T)) (hl : l.length = 6) (kt : NodeT t c T) (hex : memB TNode h0.ex = false) :
  Wp (obind (ldRow h 6 (.ptr n1 0)) fun t9 => outK (bldSl Try.prog h TNodes 1 [(0, .agg t9)]) fun v10 h20 => callN (world n (D + 1) 76 [.int .i64 (op : Int), v10] h20) fun r11 h22 => obind (avAgg r11) fun t11 => obind (stRow h22 6 t11 (.ptr r0 0)) fun h25 => obind (ldRow h25 6 (.ptr r0 0)) fun w => some (.ret (.agg w), h25)) fun r h' => ∃ c T, r = .ret (.agg c) ∧ NodeT (overN op [t]) c T ∧ Mem S h0 h' ((b, TRd, rdP u p) :: T) := by
 refine Wp.lr1 M kt.len ?_
 refine Wp.mnews M (kt.bld h) kt.one hex fun h1 M1 => ?_
 have g := grow_one c h.next kt.len kt.one
 obtain ⟨h2, e2, t2⟩ := over_r (n := n) (d := D) (h := h1) g op
 refine Wp.callN e2 ?_
 have M2 := M1.keep t2
 refine Wp.obind (avAgg_agg _) ?_
 have M3 : Mem S h0 h2 ((b, TRd, rdP u p) :: (r0, TNode, l) :: ([(h.next, TNode, c)] ++ (T ++ []))) := by
  rw [List.append_nil]
  have M4 := M2.perm (ys := [(n1, TNode, c)] ++ ((b, TRd, rdP u p) :: (r0, TNode, l) :: ([(h.next, TNode, c)] ++ T))) (by
   refine List.Perm.trans ?_ (List.perm_append_comm (l₁ := (b, TRd, rdP u p) :: (n1, TNode, c) :: (r0, TNode, l) :: T) (l₂ := [(h.next, TNode, c)]))
   refine (List.Perm.swap _ _ _).trans ?_
   refine List.Perm.cons _ (List.Perm.cons _ (List.Perm.cons _ ?_))
   exact List.perm_append_comm)
  exact Mem.drop M4
 exact fin_node M3 hl (signed kt op h.next)
theorem part_ok (hu : u.length ≤ 1000000) {m : Nat} (ih : AtomOk u m) : PartOk u m := by
 intro i hi hm
 obtain ⟨r, r1, r2, r3⟩ := ih i hi hm
 cases r with
 | error q =>
  refine ⟨_, .bad r1, r2, ?_⟩
  intro n D b h hD hn hn2 k0 hb hx
  obtain ⟨D, rfl⟩ : ∃ D', D = D' + 7 := ⟨D - 7, by omega⟩
  refine StepN.err_of ?_
  rw [w_pattern_reader_regularPart]
  unfold pattern_reader_regularPart
  have Mx := Mem.one k0 hb
  repeat (first | ((with_reducible apply Wp.mnew Mx); intro _ Mz; clear Mx; have Mx := Mz; clear Mz) | rw [newP_eq])
  have M1 := Mx.swap
  have hs := r3 (n := n) (D := D + 6) (by omega) hn hn2 M1.at0.1 M1.at0.2.1 (by rw [M1.ex]; exact hx)
  exact Wp.nodeE hs M1 fun h' p k1 t1 => ⟨rfl, p, k1, t1⟩
 | ok tj =>
  obtain ⟨t, j⟩ := tj
  obtain ⟨b1, b2⟩ := r2
  by_cases h42 : at? u j = some 42
  ·have hsg : signAt u j = 5 := signAt_some h42
   obtain ⟨hj, _⟩ := at?_some h42
   have rp := PartP.sign r1 (by rw [hsg]; decide)
   rw [hsg] at rp
   refine ⟨_, rp, ⟨by omega, by omega⟩, ?_⟩
   intro n D b h hD hn hn2 k0 hb hx
   obtain ⟨D, rfl⟩ : ∃ D', D = D' + 7 := ⟨D - 7, by omega⟩
   refine StepN.ok_of ?_
   rw [w_pattern_reader_regularPart]
   unfold pattern_reader_regularPart
   have Mx := Mem.one k0 hb
   repeat (first | ((with_reducible apply Wp.mnew Mx); intro _ Mz; clear Mx; have Mx := Mz; clear Mz) | rw [newP_eq])
   have M1 := Mx.swap
   have hs := r3 (n := n) (D := D + 6) (by omega) hn hn2 M1.at0.1 M1.at0.2.1 (by rw [M1.ex]; exact hx)
   refine Wp.nodeK hs M1 fun c T h2 kt M3 => ?_
   (((with_reducible apply Wp.obind); (with_reducible exact avAgg_agg _)))
   refine Wp.mnew M3 fun h3 M4 => ?_
   rw [newP_eq]
   refine Wp.sa0 M4 kt.len rfl kt.one fun h4 M5 => ?_
   have M6 := M5.swap
   have hs1 := skips_r (n := n) (d := D + 3) M6.at0.1 M6.at0.2.1 b2 hu 42
   rw [if_pos h42, decide_eq_true h42] at hs1
   refine Wp.rdN hs1 M6 fun h5 M7 => ?_
   repeat (first | ((with_reducible apply Wp.obind); (with_reducible exact avBool_bool _)) | ((with_reducible refine Wp.ift ?_ ?_); (with_reducible rfl)))
   exact fin_sign (D := D + 5) (op := 5) M7 rfl kt hx
  by_cases h43 : at? u j = some 43
  ·have hsg : signAt u j = 6 := signAt_some h43
   obtain ⟨hj, _⟩ := at?_some h43
   have rp := PartP.sign r1 (by rw [hsg]; decide)
   rw [hsg] at rp
   refine ⟨_, rp, ⟨by omega, by omega⟩, ?_⟩
   intro n D b h hD hn hn2 k0 hb hx
   obtain ⟨D, rfl⟩ : ∃ D', D = D' + 7 := ⟨D - 7, by omega⟩
   refine StepN.ok_of ?_
   rw [w_pattern_reader_regularPart]
   unfold pattern_reader_regularPart
   have Mx := Mem.one k0 hb
   repeat (first | ((with_reducible apply Wp.mnew Mx); intro _ Mz; clear Mx; have Mx := Mz; clear Mz) | rw [newP_eq])
   have M1 := Mx.swap
   have hs := r3 (n := n) (D := D + 6) (by omega) hn hn2 M1.at0.1 M1.at0.2.1 (by rw [M1.ex]; exact hx)
   refine Wp.nodeK hs M1 fun c T h2 kt M3 => ?_
   (((with_reducible apply Wp.obind); (with_reducible exact avAgg_agg _)))
   refine Wp.mnew M3 fun h3 M4 => ?_
   rw [newP_eq]
   refine Wp.sa0 M4 kt.len rfl kt.one fun h4 M5 => ?_
   have M6 := M5.swap
   have hs1 := skips_r (n := n) (d := D + 3) M6.at0.1 M6.at0.2.1 b2 hu 42
   rw [if_neg h42, decide_eq_false h42] at hs1
   refine Wp.rdN hs1 M6 fun h5 M7 => ?_
   have hs2 := skips_r (n := n) (d := D + 3) M7.at0.1 M7.at0.2.1 b2 hu 43
   rw [if_pos h43, decide_eq_true h43] at hs2
   repeat (first | ((with_reducible apply Wp.obind); (with_reducible exact avBool_bool _)) | ((with_reducible refine Wp.iff ?_ ?_); (with_reducible rfl)))
   refine Wp.rdN hs2 M7 fun h6 M8 => ?_
   repeat (first | ((with_reducible apply Wp.obind); (with_reducible exact avBool_bool _)) | ((with_reducible refine Wp.ift ?_ ?_); (with_reducible rfl)))
   exact fin_sign (D := D + 5) (op := 6) M8 rfl kt hx
  by_cases h63 : at? u j = some 63
  ·have hsg : signAt u j = 7 := signAt_some h63
   obtain ⟨hj, _⟩ := at?_some h63
   have rp := PartP.sign r1 (by rw [hsg]; decide)
   rw [hsg] at rp
   refine ⟨_, rp, ⟨by omega, by omega⟩, ?_⟩
   intro n D b h hD hn hn2 k0 hb hx
   obtain ⟨D, rfl⟩ : ∃ D', D = D' + 7 := ⟨D - 7, by omega⟩
   refine StepN.ok_of ?_
   rw [w_pattern_reader_regularPart]
   unfold pattern_reader_regularPart
   have Mx := Mem.one k0 hb
   repeat (first | ((with_reducible apply Wp.mnew Mx); intro _ Mz; clear Mx; have Mx := Mz; clear Mz) | rw [newP_eq])
   have M1 := Mx.swap
   have hs := r3 (n := n) (D := D + 6) (by omega) hn hn2 M1.at0.1 M1.at0.2.1 (by rw [M1.ex]; exact hx)
   refine Wp.nodeK hs M1 fun c T h2 kt M3 => ?_
   (((with_reducible apply Wp.obind); (with_reducible exact avAgg_agg _)))
   refine Wp.mnew M3 fun h3 M4 => ?_
   rw [newP_eq]
   refine Wp.sa0 M4 kt.len rfl kt.one fun h4 M5 => ?_
   have M6 := M5.swap
   have hs1 := skips_r (n := n) (d := D + 3) M6.at0.1 M6.at0.2.1 b2 hu 42
   rw [if_neg h42, decide_eq_false h42] at hs1
   refine Wp.rdN hs1 M6 fun h5 M7 => ?_
   have hs2 := skips_r (n := n) (d := D + 3) M7.at0.1 M7.at0.2.1 b2 hu 43
   rw [if_neg h43, decide_eq_false h43] at hs2
   repeat (first | ((with_reducible apply Wp.obind); (with_reducible exact avBool_bool _)) | ((with_reducible refine Wp.iff ?_ ?_); (with_reducible rfl)))
   refine Wp.rdN hs2 M7 fun h6 M8 => ?_
   have hs3 := skips_r (n := n) (d := D + 3) M8.at0.1 M8.at0.2.1 b2 hu 63
   rw [if_pos h63, decide_eq_true h63] at hs3
   repeat (first | ((with_reducible apply Wp.obind); (with_reducible exact avBool_bool _)) | ((with_reducible refine Wp.iff ?_ ?_); (with_reducible rfl)))
   refine Wp.rdN hs3 M8 fun h7 M9 => ?_
   repeat (first | ((with_reducible apply Wp.obind); (with_reducible exact avBool_bool _)) | ((with_reducible refine Wp.ift ?_ ?_); (with_reducible rfl)))
   exact fin_sign (D := D + 5) (op := 7) M9 rfl kt hx
  ·have hsg := signAt_none h42 h43 h63
   refine ⟨_, .bare r1 hsg, ⟨b1, b2⟩, ?_⟩
   intro n D b h hD hn hn2 k0 hb hx
   obtain ⟨D, rfl⟩ : ∃ D', D = D' + 7 := ⟨D - 7, by omega⟩
   refine StepN.ok_of ?_
   rw [w_pattern_reader_regularPart]
   unfold pattern_reader_regularPart
   have Mx := Mem.one k0 hb
   repeat (first | ((with_reducible apply Wp.mnew Mx); intro _ Mz; clear Mx; have Mx := Mz; clear Mz) | rw [newP_eq])
   have M1 := Mx.swap
   have hs := r3 (n := n) (D := D + 6) (by omega) hn hn2 M1.at0.1 M1.at0.2.1 (by rw [M1.ex]; exact hx)
   refine Wp.nodeK hs M1 fun c T h2 kt M3 => ?_
   (((with_reducible apply Wp.obind); (with_reducible exact avAgg_agg _)))
   refine Wp.mnew M3 fun h3 M4 => ?_
   rw [newP_eq]
   refine Wp.sa0 M4 kt.len rfl kt.one fun h4 M5 => ?_
   have M6 := M5.swap
   have hs1 := skips_r (n := n) (d := D + 3) M6.at0.1 M6.at0.2.1 b2 hu 42
   rw [if_neg h42, decide_eq_false h42] at hs1
   refine Wp.rdN hs1 M6 fun h5 M7 => ?_
   have hs2 := skips_r (n := n) (d := D + 3) M7.at0.1 M7.at0.2.1 b2 hu 43
   rw [if_neg h43, decide_eq_false h43] at hs2
   repeat (first | ((with_reducible apply Wp.obind); (with_reducible exact avBool_bool _)) | ((with_reducible refine Wp.iff ?_ ?_); (with_reducible rfl)))
   refine Wp.rdN hs2 M7 fun h6 M8 => ?_
   have hs3 := skips_r (n := n) (d := D + 3) M8.at0.1 M8.at0.2.1 b2 hu 63
   rw [if_neg h63, decide_eq_false h63] at hs3
   repeat (first | ((with_reducible apply Wp.obind); (with_reducible exact avBool_bool _)) | ((with_reducible refine Wp.iff ?_ ?_); (with_reducible rfl)))
   refine Wp.rdN hs3 M8 fun h7 M9 => ?_
   repeat (first | ((with_reducible apply Wp.obind); (with_reducible exact avBool_bool _)) | ((with_reducible refine Wp.iff ?_ ?_); (with_reducible rfl)))
   refine Wp.lr1 M9 kt.len ?_
   exact fin_node (mem_mid (xs := [_]) (T0 := [_]) M9) rfl kt
end
section
variable {n d b p q i m : Nat} {h h0 : AHeap} {u : Bytes} {Q : ARes → AHeap → Prop} {S : List Nat} {xs rs T T0 T1 : List RowT} {w : List Nat} {x : R} {t : Nd} {c : List AV} {v kv : AV} {l : List Nd} {kc : List (List AV)}
theorem StepN.of_main {r : Res} (main : ∀ Q : ARes → AHeap → Prop, (∀ t j c T H', r = .ok (t, j) → NodeT t c T → Mem [b] h H' ((b, TRd, rdP u j) :: T) → Q (.ret (.agg c)) H') → (∀ e p H', r = .error e → Rd H' b u p → Tch [b] h H' → Q (.panic (PanA 6 e)) H') → Wp x Q) : StepN b u h x r := by
 cases r with
 | error e => exact StepN.err_of (main _ (fun t j c T H' hh => by cases hh) fun e' p H' hh k5 t5 => by cases hh; exact ⟨rfl, p, k5, t5⟩)
 | ok tj =>
  obtain ⟨t, j⟩ := tj
  exact StepN.ok_of (main _ (fun t' j' c T H' hh k5 t5 => by cases hh; exact ⟨c, T, rfl, k5, t5⟩) fun e' p H' hh => by cases hh)
theorem Wp.nodeGrow {K : AV → AHeap → R} {y z : RowT} (M : Mem S h0 h (y :: ((z :: (T0 ++ T1)) ++ T))) (g : GrowT TNode 6 kc kv T0) (ks : KidsT l kc T1) (kt : NodeT t c T) (hex : memB TNode h0.ex = false) (hl : l.length ≤ 1000001)
  (hk : ∀ kv' h' T0', GrowT TNode 6 (kc ++ [c]) kv' T0' → KidsT (l ++ [t]) (kc ++ [c]) (T1 ++ T) → Mem S h0 h' (y :: z :: (T0' ++ (T1 ++ T))) → Wp (K kv' h') Q) :
  Wp (outK (bldSl Try.prog h TNodes 1 [(0, .agg c)]) fun v12 h29 => outK (opAppend Try.prog h29 TNodes TNodes kv v12) fun v13 h31 => K v13 h31) Q := by
 refine Wp.mnews M (kt.bld h) kt.one hex fun h1 M1 => ?_
 have M2 : Mem S h0 h1 ((h.next, TNode, c) :: (y :: z :: (T1 ++ T)) ++ T0) := M1.perm (by
  refine List.Perm.cons _ (List.Perm.cons _ (List.Perm.cons _ ?_))
  show ((T1 ++ T) ++ T0).Perm ((T0 ++ T1) ++ T)
  rw [List.append_assoc T0]
  exact List.perm_append_comm)
 have hkl := ks.len
 refine Wp.grow M2 g (by kernel_rfl) (by kernel_rfl) (by kernel_rfl) (B := 64) (by kernel_rfl) hex kt.len kt.one (by omega) (by omega) fun kv' h' T0' g' M3 => ?_
 refine hk kv' h' T0' g' (KidsT.snoc kt ks) (M3.perm ?_)
 exact List.Perm.cons _ (List.Perm.cons _ List.perm_append_comm)
theorem at?_none (h : at? u i = none) (hi : i ≤ u.length) : i = u.length := by
 by_cases hp : i < u.length
 ·rw [at?_lt hp] at h
  cases h
 ·omega
theorem row_loop (hu : u.length ≤ 1000000) (ih : PartOk u m) : ∀ (k i : Nat) (l : List Nd), i ≤ u.length → u.length - i ≤ m → u.length - i < k → l.length ≤ i → ∃ r, RowP u l i r ∧ Bnd u i r ∧
   ∀ {n D f b r0 : Nat} {S : List Nat} {h0 H : AHeap} {kc : List (List AV)} {kv : AV} {T0 T1 : List RowT} {z : List AV} {k7 : AV → AHeap → R} {Q : ARes → AHeap → Prop}, 4 * m + 7 ≤ D → 300 < n → u.length + 5 < n → u.length - i < f → GrowT TNode 6 kc kv T0 → KidsT l kc T1 → memB TNode h0.ex = false →
    Mem S h0 H ((b, TRd, rdP u i) :: (r0, TNode, z) :: (T0 ++ T1)) →
    (∀ l' j kc kv T0 T1 H', r = .ok (joinN 3 l', j) → GrowT TNode 6 kc kv T0 → KidsT l' kc T1 → Mem S h0 H' ((b, TRd, rdP u j) :: (r0, TNode, z) :: (T0 ++ T1)) → Wp (k7 kv H') Q) →
    (∀ e p H', r = .error e → Rd H' b u p → Tch S h0 H' → Q (.panic (PanA 6 e)) H') →
    Wp (pattern_reader_regularRow_L0 (world n D) (.ptr b 0) k7 f kv H) Q
 | 0, _, _, _, _, hk, _ => by omega
 | k + 1, i, l, hi, hm, hk, hli => by
  by_cases hst : stops u i
  ·refine ⟨_, .stop hst, ⟨Nat.le_refl _, hi⟩, ?_⟩
   intro n D f b r0 S h0 H kc kv T0 T1 z k7 Q hD hn hn2 hf g ks hex M hok hbad
   obtain ⟨D, rfl⟩ : ∃ D', D = D' + 7 := ⟨D - 7, by omega⟩
   cases f with
   | zero => omega
   | succ f =>
    have he := ended_r (n := n) (d := D + 6) M.at0.1
    have h1 : world n (D + 7) 68 [.ptr b 0, .int .u8 124] H = some (.ret (.bool (decide (at? u i = some 124))), H) := sees_r (n := n) (d := D + 5) M.at0.1 hi 124
    have h2 : world n (D + 7) 68 [.ptr b 0, .int .u8 41] H = some (.ret (.bool (decide (at? u i = some 41))), H) := sees_r (n := n) (d := D + 5) M.at0.1 hi 41
    have hfin := hok l i kc kv T0 T1 H rfl g ks M
    rw [pattern_reader_regularRow_L0_s]
    unfold pattern_reader_regularRow_L0b
    rcases hst with hc | hc | hc
    ·have := at?_none hc hi
     rw [decide_eq_true this] at he
     repeat (first | (with_reducible refine Wp.join1 (fun _ _ => ?_)) | (with_reducible refine Wp.lett ?_) | ((with_reducible apply Wp.obind); (with_reducible exact avBool_bool _)) | ((with_reducible refine Wp.iff ?_ ?_); (with_reducible first | rfl | exact Bool.not_true)) | ((with_reducible apply Wp.callN); (with_reducible assumption)) | (with_reducible refine Wp.go1 (by assumption) ?_))
     exact hfin
    ·obtain ⟨hp, _⟩ := at?_some hc
     rw [decide_eq_false (by omega)] at he
     rw [decide_eq_true hc] at h1
     repeat (first | (with_reducible refine Wp.join1 (fun _ _ => ?_)) | (with_reducible refine Wp.lett ?_) | ((with_reducible apply Wp.obind); (with_reducible exact avBool_bool _)) | ((with_reducible refine Wp.ift ?_ ?_); (with_reducible exact Bool.not_false)) | ((with_reducible refine Wp.iff ?_ ?_); (with_reducible first | rfl | exact Bool.not_true)) | ((with_reducible apply Wp.callN); (with_reducible assumption)) | (with_reducible refine Wp.go1 (by assumption) ?_))
     exact hfin
    ·obtain ⟨hp, _⟩ := at?_some hc
     rw [decide_eq_false (by omega)] at he
     rw [decide_eq_false (by rw [hc]; decide)] at h1
     rw [decide_eq_true hc] at h2
     repeat (first | (with_reducible refine Wp.join1 (fun _ _ => ?_)) | (with_reducible refine Wp.lett ?_) | ((with_reducible apply Wp.obind); (with_reducible exact avBool_bool _)) | ((with_reducible refine Wp.ift ?_ ?_); (with_reducible exact Bool.not_false)) | ((with_reducible refine Wp.iff ?_ ?_); (with_reducible exact Bool.not_true)) | ((with_reducible apply Wp.callN); (with_reducible assumption)) | (with_reducible refine Wp.go1 (by assumption) ?_))
     exact hfin
  ·have hlt : i < u.length := by
    rcases Nat.lt_or_ge i u.length with h | h
    ·exact h
    ·exact absurd (.inl (at?_ge h)) hst
   have n1 : at? u i ≠ some 124 := fun hh => hst (.inr (.inl hh))
   have n2 : at? u i ≠ some 41 := fun hh => hst (.inr (.inr hh))
   obtain ⟨r, r1, r2, r3⟩ := ih i hi hm
   cases r with
   | error e =>
    refine ⟨_, .bad hst r1, r2, ?_⟩
    intro n D f b r0 S h0 H kc kv T0 T1 z k7 Q hD hn hn2 hf g ks hex M hok hbad
    obtain ⟨D, rfl⟩ : ∃ D', D = D' + 7 := ⟨D - 7, by omega⟩
    cases f with
    | zero => omega
    | succ f =>
     have he := ended_r (n := n) (d := D + 6) M.at0.1
     have h1 : world n (D + 7) 68 [.ptr b 0, .int .u8 124] H = some (.ret (.bool (decide (at? u i = some 124))), H) := sees_r (n := n) (d := D + 5) M.at0.1 hi 124
     have h2 : world n (D + 7) 68 [.ptr b 0, .int .u8 41] H = some (.ret (.bool (decide (at? u i = some 41))), H) := sees_r (n := n) (d := D + 5) M.at0.1 hi 41
     rw [decide_eq_false (by omega)] at he
     rw [decide_eq_false n1] at h1
     rw [decide_eq_false n2] at h2
     have hs := r3 (n := n) (D := D + 7) (by omega) hn hn2 M.at0.1 M.at0.2.1 (by rw [M.ex]; exact hex)
     rw [pattern_reader_regularRow_L0_s]
     unfold pattern_reader_regularRow_L0b
     repeat (first | (with_reducible refine Wp.join1 (fun _ _ => ?_)) | (with_reducible refine Wp.lett ?_) | ((with_reducible apply Wp.obind); (with_reducible exact avBool_bool _)) | ((with_reducible refine Wp.ift ?_ ?_); (with_reducible exact Bool.not_false)) | ((with_reducible first | apply Wp.callN | apply Wp.callK); (with_reducible assumption)) | (with_reducible refine Wp.go1 (by assumption) ?_))
     exact Wp.nodeE hs M fun h' p k1 t1 => hbad e p h' rfl k1 t1
   | ok tj =>
    obtain ⟨t, j⟩ := tj
    obtain ⟨b1, b2⟩ := r2
    obtain ⟨r, q1, q2, q3⟩ := row_loop hu ih k j (l ++ [t]) b2 (by omega) (by omega) (by simp; omega)
    refine ⟨r, .more hst r1 q1, ?_, ?_⟩
    ·cases r with
     | error e => exact q2
     | ok tj2 =>
      obtain ⟨a1, a2⟩ := q2
      exact ⟨by omega, a2⟩
    ·intro n D f b r0 S h0 H kc kv T0 T1 z k7 Q hD hn hn2 hf g ks hex M hok hbad
     obtain ⟨D, rfl⟩ : ∃ D', D = D' + 7 := ⟨D - 7, by omega⟩
     cases f with
     | zero => omega
     | succ f =>
      have he := ended_r (n := n) (d := D + 6) M.at0.1
      have h1 : world n (D + 7) 68 [.ptr b 0, .int .u8 124] H = some (.ret (.bool (decide (at? u i = some 124))), H) := sees_r (n := n) (d := D + 5) M.at0.1 hi 124
      have h2 : world n (D + 7) 68 [.ptr b 0, .int .u8 41] H = some (.ret (.bool (decide (at? u i = some 41))), H) := sees_r (n := n) (d := D + 5) M.at0.1 hi 41
      rw [decide_eq_false (by omega)] at he
      rw [decide_eq_false n1] at h1
      rw [decide_eq_false n2] at h2
      have hs := r3 (n := n) (D := D + 7) (by omega) hn hn2 M.at0.1 M.at0.2.1 (by rw [M.ex]; exact hex)
      rw [pattern_reader_regularRow_L0_s]
      unfold pattern_reader_regularRow_L0b
      repeat (first | (with_reducible refine Wp.join1 (fun _ _ => ?_)) | (with_reducible refine Wp.lett ?_) | ((with_reducible apply Wp.obind); (with_reducible exact avBool_bool _)) | ((with_reducible refine Wp.ift ?_ ?_); (with_reducible exact Bool.not_false)) | ((with_reducible first | apply Wp.callN | apply Wp.callK); (with_reducible assumption)) | (with_reducible refine Wp.go1 (by assumption) ?_))
      refine Wp.nodeK hs M fun c T h2 kt M3 => ?_
      (((with_reducible apply Wp.obind); (with_reducible exact avAgg_agg _)))
      refine Wp.nodeGrow M3 g ks kt hex (by omega) fun kv' h' T0' g' ks' M4 => ?_
      exact q3 hD hn hn2 (by omega) g' ks' hex M4 hok hbad
theorem row_ok (hu : u.length ≤ 1000000) (ih : PartOk u m) : RowOk u m := by
 intro i hi hm
 obtain ⟨r, r1, r2, r3⟩ := row_loop hu ih (u.length + 1) i [] hi hm (by omega) (Nat.zero_le _)
 refine ⟨r, r1, r2, ?_⟩
 intro n D b h hD hn hn2 k0 hb hx
 obtain ⟨D, rfl⟩ : ∃ D', D = D' + 8 := ⟨D - 8, by omega⟩
 refine StepN.of_main fun Q q1 q2 => ?_
 rw [w_pattern_reader_regularRow]
 unfold pattern_reader_regularRow
 refine Wp.mnew (Mem.one k0 hb) fun h1 Mx => ?_
 rw [newP_eq]
 have M1 := Mx.swap
 ((with_reducible refine Wp.join1 (fun _ _ => ?_)))
 rename_i k7 ek7
 refine r3 (r0 := h.next) (by omega) hn hn2 (by omega) (GrowT.nil _ _) .nil hx M1 ?_ q2
 intro l' j kc kv T0 T1 H' hr g ks M2
 refine Wp.go1 ek7 ?_
 obtain ⟨c, T, h2, e2, kt, M3⟩ := inRow_r (n := n) (d := D + 5) (xs := [_, _]) M2 g ks
 repeat (first | ((with_reducible apply Wp.obind); (with_reducible exact avAgg_agg _)) | ((with_reducible apply Wp.callN); (with_reducible assumption)))
 refine (fin_node M3 rfl kt).mono ?_
 rintro _ h3 ⟨c3, T3, rfl, kt3, M4⟩
 exact q1 _ _ _ _ _ hr kt3 M4
end
section
variable {n d b p q i m : Nat} {h h0 : AHeap} {u : Bytes} {Q : ARes → AHeap → Prop} {S : List Nat} {xs rs T T0 T1 : List RowT} {w : List Nat} {x : R} {t : Nd} {c : List AV} {v kv : AV} {l : List Nd} {kc : List (List AV)}
theorem alt_loop (hu : u.length ≤ 1000000) (ih : RowOk u m) : ∀ (k j : Nat) (l : List Nd), j ≤ u.length → u.length - j ≤ m → u.length - j < k → l.length ≤ j + 1 → l ≠ [] → ∃ r, (at? u j = some 124 → AltP u l (j + 1) r) ∧ (at? u j ≠ some 124 → r = .ok (joinN 4 l, j)) ∧ Bnd u j r ∧
   ∀ {n D f b r0 : Nat} {S : List Nat} {h0 H : AHeap} {kc : List (List AV)} {kv : AV} {T0 T1 : List RowT} {z : List AV} {k12 : AV → AHeap → R} {Q : ARes → AHeap → Prop}, 4 * m + 8 ≤ D → 300 < n → u.length + 5 < n → u.length - j < f → GrowT TNode 6 kc kv T0 → KidsT l kc T1 → memB TNode h0.ex = false →
    Mem S h0 H ((b, TRd, rdP u j) :: (r0, TNode, z) :: (T0 ++ T1)) →
    (∀ l' j kc kv T0 T1 H', l' ≠ [] → r = .ok (joinN 4 l', j) → GrowT TNode 6 kc kv T0 → KidsT l' kc T1 → Mem S h0 H' ((b, TRd, rdP u j) :: (r0, TNode, z) :: (T0 ++ T1)) → Wp (k12 kv H') Q) →
    (∀ e p H', r = .error e → Rd H' b u p → Tch S h0 H' → Q (.panic (PanA 6 e)) H') →
    Wp (pattern_reader_alternatives_L0 (world n D) (.ptr b 0) k12 f kv H) Q
 | 0, _, _, _, _, hk, _, _ => by omega
 | k + 1, j, l, hi, hm, hk, hli, hne => by
  by_cases hst : at? u j = some 124
  ·obtain ⟨hp, _⟩ := at?_some hst
   obtain ⟨r, r1, r2, r3⟩ := ih (j + 1) (by omega) (by omega)
   cases r with
   | error e =>
    refine ⟨.error e, fun _ => .bad r1, fun hh => absurd hst hh, r2, ?_⟩
    intro n D f b r0 S h0 H kc kv T0 T1 z k12 Q hD hn hn2 hf g ks hex M hok hbad
    obtain ⟨D, rfl⟩ : ∃ D', D = D' + 8 := ⟨D - 8, by omega⟩
    cases f with
    | zero => omega
    | succ f =>
     rw [pattern_reader_alternatives_L0_s]
     unfold pattern_reader_alternatives_L0b
     have hs1 := skips_r (n := n) (d := D + 5) M.at0.1 M.at0.2.1 hi hu 124
     rw [if_pos hst, decide_eq_true hst] at hs1
     refine Wp.rdN hs1 M fun h1 M1 => ?_
     have hs := r3 (n := n) (D := D + 8) (by omega) hn hn2 M1.at0.1 M1.at0.2.1 (by rw [M1.ex]; exact hex)
     repeat (first | ((with_reducible apply Wp.obind); (with_reducible exact avBool_bool _)) | ((with_reducible refine Wp.ift ?_ ?_); (with_reducible rfl)))
     exact Wp.nodeE hs M1 fun h' p k1 t1 => hbad e p h' rfl k1 t1
   | ok tj =>
    obtain ⟨t, j2⟩ := tj
    obtain ⟨b1, b2⟩ := r2
    obtain ⟨r, q1, q2, q3, q4⟩ := alt_loop hu ih k j2 (l ++ [t]) b2 (by omega) (by omega) (by simp; omega) (by simp)
    refine ⟨r, fun _ => ?_, fun hh => absurd hst hh, ?_, ?_⟩
    ·by_cases h2 : at? u j2 = some 124
     ·exact .more r1 h2 (q1 h2)
     ·rw [q2 h2]
      exact .last r1 h2
    ·cases r with
     | error e => exact q3
     | ok tj2 =>
      obtain ⟨a1, a2⟩ := q3
      exact ⟨by omega, a2⟩
    ·intro n D f b r0 S h0 H kc kv T0 T1 z k12 Q hD hn hn2 hf g ks hex M hok hbad
     obtain ⟨D, rfl⟩ : ∃ D', D = D' + 8 := ⟨D - 8, by omega⟩
     cases f with
     | zero => omega
     | succ f =>
      rw [pattern_reader_alternatives_L0_s]
      unfold pattern_reader_alternatives_L0b
      have hs1 := skips_r (n := n) (d := D + 5) M.at0.1 M.at0.2.1 hi hu 124
      rw [if_pos hst, decide_eq_true hst] at hs1
      refine Wp.rdN hs1 M fun h1 M1 => ?_
      have hs := r3 (n := n) (D := D + 8) (by omega) hn hn2 M1.at0.1 M1.at0.2.1 (by rw [M1.ex]; exact hex)
      repeat (first | ((with_reducible apply Wp.obind); (with_reducible exact avBool_bool _)) | ((with_reducible refine Wp.ift ?_ ?_); (with_reducible rfl)))
      refine Wp.nodeK hs M1 fun c T h2 kt M3 => ?_
      (((with_reducible apply Wp.obind); (with_reducible exact avAgg_agg _)))
      refine Wp.nodeGrow M3 g ks kt hex (by omega) fun kv' h' T0' g' ks' M4 => ?_
      exact q4 hD hn hn2 (by omega) g' ks' hex M4 hok hbad
  ·refine ⟨.ok (joinN 4 l, j), fun hh => absurd hh hst, fun _ => rfl, ⟨Nat.le_refl _, hi⟩, ?_⟩
   intro n D f b r0 S h0 H kc kv T0 T1 z k12 Q hD hn hn2 hf g ks hex M hok hbad
   obtain ⟨D, rfl⟩ : ∃ D', D = D' + 8 := ⟨D - 8, by omega⟩
   cases f with
   | zero => omega
   | succ f =>
    rw [pattern_reader_alternatives_L0_s]
    unfold pattern_reader_alternatives_L0b
    have hs1 := skips_r (n := n) (d := D + 5) M.at0.1 M.at0.2.1 hi hu 124
    rw [if_neg hst, decide_eq_false hst] at hs1
    refine Wp.rdN hs1 M fun h1 M1 => ?_
    repeat (first | ((with_reducible apply Wp.obind); (with_reducible exact avBool_bool _)) | ((with_reducible refine Wp.iff ?_ ?_); (with_reducible rfl)))
    exact hok l j kc kv T0 T1 h1 hne rfl g ks M1
theorem alt_ok (hu : u.length ≤ 1000000) (ih : RowOk u m) : AltOk u m := by
 intro i hi hm
 obtain ⟨r, r1, r2, r3⟩ := ih i hi hm
 cases r with
 | error e =>
  refine ⟨.error e, .bad r1, r2, ?_⟩
  intro n D b h hD hn hn2 k0 hb hx
  obtain ⟨D, rfl⟩ : ∃ D', D = D' + 9 := ⟨D - 9, by omega⟩
  refine StepN.err_of ?_
  rw [w_pattern_reader_alternatives]
  unfold pattern_reader_alternatives
  refine Wp.mnew (Mem.one k0 hb) fun h1 Mx => ?_
  have M1 := Mx.swap
  have hs := r3 (n := n) (D := D + 8) (by omega) hn hn2 M1.at0.1 M1.at0.2.1 (by rw [M1.ex]; exact hx)
  exact Wp.nodeE hs M1 fun h' p k1 t1 => ⟨rfl, p, k1, t1⟩
 | ok tj =>
  obtain ⟨t, j⟩ := tj
  obtain ⟨b1, b2⟩ := r2
  obtain ⟨r, q1, q2, q3, q4⟩ := alt_loop hu ih (u.length + 1) j [t] b2 (by omega) (by omega) (by simp) (by simp)
  refine ⟨r, ?_, ?_, ?_⟩
  ·by_cases h2 : at? u j = some 124
   ·exact .more (l := []) r1 h2 (q1 h2)
   ·rw [q2 h2]
    exact .last (l := []) r1 h2
  ·cases r with
   | error e => exact q3
   | ok tj2 =>
    obtain ⟨a1, a2⟩ := q3
    exact ⟨by omega, a2⟩
  intro n D b h hD hn hn2 k0 hb hx
  obtain ⟨D, rfl⟩ : ∃ D', D = D' + 9 := ⟨D - 9, by omega⟩
  refine StepN.of_main fun Q o1 o2 => ?_
  rw [w_pattern_reader_alternatives]
  unfold pattern_reader_alternatives
  refine Wp.mnew (Mem.one k0 hb) fun h1 Mx => ?_
  have M1 := Mx.swap
  have hs := r3 (n := n) (D := D + 8) (by omega) hn hn2 M1.at0.1 M1.at0.2.1 (by rw [M1.ex]; exact hx)
  refine Wp.nodeK hs M1 fun c T h2 kt M3 => ?_
  (((with_reducible apply Wp.obind); (with_reducible exact avAgg_agg _)))
  refine Wp.mnews M3 (kt.bld h2) kt.one hx fun h3 M4 => ?_
  ((with_reducible refine Wp.join1 (fun _ _ => ?_)))
  rename_i k12 ek12
  have M5 : Mem [b] h h3 ((b, TRd, rdP u j) :: (h.next, TNode, [.int .i64 0, .int .u64 0, .int .u64 0, .int .u64 0, .int .u64 0, .nsl]) :: ([(h2.next, TNode, c)] ++ (T ++ []))) := M4.perm (by
   rw [List.append_nil]
   exact List.perm_append_comm_assoc [_, _] [_] T)
  refine q4 (r0 := h.next) (by omega) hn hn2 (by omega) (grow_one c h2.next kt.len kt.one) (KidsT.cons kt .nil) hx M5 ?_ o2
  intro l' j' kc kv T0 T1 H' hne hr g ks M6
  refine Wp.go1 ek12 ?_
  have hlen := g.len
  have hkl := ks.len
  match l', hne, hr, ks, hkl with
  | [t'], _, hr, ks, hkl =>
   obtain ⟨c', rfl, kt'⟩ := ks.one
   obtain ⟨q, rfl, rfl⟩ := grow_single g
   have ei : idxP 6 (.sl q 0 1 6) 0 = some (.ptr q 0) := idx0 q 0
   have hl1 : lenL (.sl q 0 1 6) = some 1 := rfl
   repeat (first | (with_reducible refine Wp.lett ?_) | ((with_reducible apply Wp.obind); (with_reducible first | exact hl1 | exact ei)) | ((with_reducible refine Wp.ift ?_ ?_); ((with_reducible apply beq_t); omega)) | rw [newP_eq])
   refine Wp.obind (RowH.ldAll (Mem.at (xs := [_, _]) M6).1 kt'.len) ?_
   refine (fin_node (mem_mid (xs := [_, _]) (T0 := [_]) M6) rfl kt').mono ?_
   rintro _ h3 ⟨c3, T3, rfl, kt3, M7⟩
   exact o1 _ _ _ _ _ hr kt3 M7
  | t1 :: t2 :: ts, _, hr, ks, hkl =>
   simp only [List.length_cons] at hkl
   have hl := nodeC_len (kv := kv) (op := 4) zeroW_ok
   have ho := nodeC_one (op := 4) (w := zeroW) g.one.1
   obtain ⟨h4, e4, t4⟩ := over_r (n := n) (d := D + 7) (h := H') g 4
   have kt4 : NodeT (joinN 4 (t1 :: t2 :: ts)) (nodeC 4 zeroW kv) (T0 ++ T1) := NodeT.mk zeroW_ok g ks
   have e5 : world n (D + 8) 76 [.int .i64 4, kv] H' = some (.ret (.agg (nodeC 4 zeroW kv)), h4) := e4
   repeat (first | (with_reducible refine Wp.lett ?_) | ((with_reducible apply Wp.obind); (with_reducible first | exact hlen | exact avAgg_agg _)) | ((with_reducible refine Wp.iff ?_ ?_); ((with_reducible apply beq_f); omega)) | ((with_reducible apply Wp.callN); (with_reducible exact e5)) | rw [newP_eq])
   refine (fin_node (M6.keep t4) rfl kt4).mono ?_
   rintro _ h3 ⟨c3, T3, rfl, kt3, M7⟩
   exact o1 _ _ _ _ _ hr kt3 M7
theorem alts_ok (hu : u.length ≤ 1000000) : ∀ m, AltOk u m
 | 0 => alt_ok hu (row_ok hu (part_ok hu (atom_ok hu fun m' hm => by omega)))
 | m + 1 => alt_ok hu (row_ok hu (part_ok hu (atom_ok hu fun m' hm => by
   obtain rfl : m = m' := by omega
   exact alts_ok hu m)))
end
def partL (u : Bytes) (i : Nat) : Res := match at? u i with
 | none => .error i
 | some c => .ok (oneN c, i + 1)
def partG (u : Bytes) (i : Nat) : Res := match at? u i with
 | none => .error i
 | some c => if c = 42 then .ok (overN 5 [anyN], i + 1) else if c = 63 then .ok (anyN, i + 1) else if c = 92 then (match at? u (i + 1) with
   | none => .error (i + 1)
   | some e => .ok (oneN e, i + 2))
  else .ok (oneN c, i + 1)
inductive FlatP (F : Nat → Res) (u : Bytes) : List Nd → Nat → Res → Prop
 | stop {l : List Nd} {i : Nat} (s : u.length ≤ i) : FlatP F u l i (.ok (joinN 3 l, i))
 | bad {l : List Nd} {i q : Nat} (s : i < u.length) (h : F i = .error q) : FlatP F u l i (.error q)
 | more {l : List Nd} {i j : Nat} {t : Nd} {r : Res} (s : i < u.length) (h : F i = .ok (t, j)) (m : FlatP F u (l ++ [t]) j r) : FlatP F u l i r
def PartF (u : Bytes) (fid : Nat) (F : Nat → Res) : Prop := (∀ i, i ≤ u.length → Bnd1 u i (F i)) ∧
 ∀ {n D b i : Nat} {h : AHeap}, 4 ≤ D → 300 < n → i ≤ u.length → Rd h b u i → b < h.next → memB TNode h.ex = false → StepN b u h (world n D fid [.ptr b 0] h) (F i)
theorem dynL (call : CallF) (b : Nat) (h : AHeap) : dynC Try.prog call (AV.fn 63 [.ptr b 0] []) [] h = call 63 [.ptr b 0] h := by
 have e : callV Try.prog h [] (some (AV.fn 63 [.ptr b 0] [])) = some (.call 63 [.ptr b 0], h) := by kernel_rfl
 unfold dynC
 rw [e]
theorem dynG (call : CallF) (b : Nat) (h : AHeap) : dynC Try.prog call (AV.fn 60 [.ptr b 0] []) [] h = call 60 [.ptr b 0] h := by
 have e : callV Try.prog h [] (some (AV.fn 60 [.ptr b 0] [])) = some (.call 60 [.ptr b 0], h) := by kernel_rfl
 unfold dynC
 rw [e]
section
variable {n d b p q i m : Nat} {h h0 : AHeap} {u : Bytes} {Q : ARes → AHeap → Prop} {S : List Nat} {xs rs T T0 T1 : List RowT} {w : List Nat} {x : R} {t : Nd} {c : List AV} {v kv : AV} {l : List Nd} {kc : List (List AV)}
theorem partL_f (hu : u.length ≤ 1000000) : PartF u 63 (partL u) := by
 refine ⟨fun i hi => ?_, ?_⟩
 ·unfold partL
  cases hc : at? u i with
  | none => exact hi
  | some c =>
   obtain ⟨hp, _⟩ := at?_some hc
   exact ⟨by omega, by omega⟩
 intro n D b i h hD hn hi k0 hb hx
 obtain ⟨D, rfl⟩ : ∃ D', D = D' + 4 := ⟨D - 4, by omega⟩
 unfold partL
 cases hc : at? u i with
 | none =>
  refine StepN.err_of ?_
  rw [w_pattern_reader_literalPart]
  unfold pattern_reader_literalPart
  refine Wp.mnew (Mem.one k0 hb) fun h1 Mx => ?_
  have M1 := Mx.swap
  have hs := next_r (n := n) (d := D + 1) M1.at0.1 M1.at0.2.1 hi hu
  rw [hc] at hs
  exact Wp.rdE hs M1 fun h' p k1 t1 => ⟨rfl, p, k1, t1⟩
 | some c =>
  have h256 := at?_256 hc
  refine StepN.ok_of ?_
  rw [w_pattern_reader_literalPart]
  unfold pattern_reader_literalPart
  refine Wp.mnew (Mem.one k0 hb) fun h1 Mx => ?_
  have M1 := Mx.swap
  have hs := next_r (n := n) (d := D + 1) M1.at0.1 M1.at0.2.1 hi hu
  rw [hc] at hs
  refine Wp.rdK hs M1 fun h2 M2 => ?_
  repeat (first | ((with_reducible apply Wp.obind); (with_reducible first | exact avInt_int _ _ | exact avAgg_agg _)) | ((with_reducible apply Wp.callN); (with_reducible exact oneByte_w (d := D + 1) hn h256)) | rw [newP_eq])
  exact fin_node M2 rfl (NodeT.leaf 2 (spanW_ok 1 zeroW_ok c))
theorem partG_f (hu : u.length ≤ 1000000) : PartF u 60 (partG u) := by
 refine ⟨fun i hi => ?_, ?_⟩
 ·unfold partG
  cases hc : at? u i with
  | none => exact hi
  | some c =>
   obtain ⟨hp, _⟩ := at?_some hc
   dsimp only
   split
   ·exact ⟨by omega, by omega⟩
   ·split
    ·exact ⟨by omega, by omega⟩
    ·split
     ·cases he : at? u (i + 1) with
      | none => exact (by omega : i + 1 ≤ u.length)
      | some e =>
       obtain ⟨hp2, _⟩ := at?_some he
       exact ⟨by omega, by omega⟩
     ·exact ⟨by omega, by omega⟩
 intro n D b i h hD hn hi k0 hb hx
 obtain ⟨D, rfl⟩ : ∃ D', D = D' + 4 := ⟨D - 4, by omega⟩
 unfold partG
 cases hc : at? u i with
 | none =>
  refine StepN.err_of ?_
  rw [w_pattern_reader_globPart]
  unfold pattern_reader_globPart
  refine Wp.mnew (Mem.one k0 hb) fun h1 Mx => ?_
  have M1 := Mx.swap
  have hs := next_r (n := n) (d := D + 1) M1.at0.1 M1.at0.2.1 hi hu
  rw [hc] at hs
  exact Wp.rdE hs M1 fun h' p k1 t1 => ⟨rfl, p, k1, t1⟩
 | some c =>
  obtain ⟨hp, _⟩ := at?_some hc
  have h256 := at?_256 hc
  dsimp only
  by_cases h42 : c = 42
  ·rw [if_pos h42]
   refine StepN.ok_of ?_
   rw [w_pattern_reader_globPart]
   unfold pattern_reader_globPart
   refine Wp.mnew (Mem.one k0 hb) fun h1 Mx => ?_
   have M1 := Mx.swap
   have hs := next_r (n := n) (d := D + 1) M1.at0.1 M1.at0.2.1 hi hu
   rw [hc] at hs
   refine Wp.rdK hs M1 fun h2 M2 => ?_
   have kt : NodeT anyN (nodeC 2 anyW .nsl) [] := NodeT.leaf 2 anyW_ok
   repeat (first | (with_reducible refine Wp.lett ?_) | ((with_reducible apply Wp.obind); (with_reducible first | exact avInt_int _ _ | exact avAgg_agg _)) | ((with_reducible refine Wp.ift ?_ ?_); ((with_reducible apply beq_t); omega)) | ((with_reducible apply Wp.callN); (with_reducible exact anyByte_w (d := D + 1) hn)) | rw [newP_eq])
   refine Wp.mnews M2 (kt.bld h2) kt.one hx fun h3 M3 => ?_
   obtain ⟨h4, e4, t4⟩ := over_r (n := n) (d := D + 2) (h := h3) (grow_one _ h2.next kt.len kt.one) 5
   refine Wp.callN e4 ?_
   have M4 := M3.keep t4
   refine Wp.obind (avAgg_agg _) ?_
   have M5 : Mem [b] h h4 ((b, TRd, rdP u (i + 1)) :: (h.next, TNode, [.int .i64 0, .int .u64 0, .int .u64 0, .int .u64 0, .int .u64 0, .nsl]) :: ([(h2.next, TNode, nodeC 2 anyW .nsl)] ++ ([] ++ []))) := M4.perm (List.perm_append_comm (l₁ := [_, _]) (l₂ := [_]))
   exact fin_node M5 rfl (signed kt 5 h2.next)
  rw [if_neg h42]
  by_cases h63 : c = 63
  ·rw [if_pos h63]
   refine StepN.ok_of ?_
   rw [w_pattern_reader_globPart]
   unfold pattern_reader_globPart
   refine Wp.mnew (Mem.one k0 hb) fun h1 Mx => ?_
   have M1 := Mx.swap
   have hs := next_r (n := n) (d := D + 1) M1.at0.1 M1.at0.2.1 hi hu
   rw [hc] at hs
   refine Wp.rdK hs M1 fun h2 M2 => ?_
   repeat (first | (with_reducible refine Wp.lett ?_) | ((with_reducible apply Wp.obind); (with_reducible first | exact avInt_int _ _ | exact avAgg_agg _)) | ((with_reducible refine Wp.ift ?_ ?_); ((with_reducible apply beq_t); omega)) | ((with_reducible refine Wp.iff ?_ ?_); ((with_reducible apply beq_f); omega)) | ((with_reducible apply Wp.callN); (with_reducible exact anyByte_w (d := D + 1) hn)) | rw [newP_eq])
   exact fin_node M2 rfl (NodeT.leaf 2 anyW_ok)
  rw [if_neg h63]
  by_cases h92 : c = 92
  ·rw [if_pos h92]
   cases he : at? u (i + 1) with
   | none =>
    refine StepN.err_of ?_
    rw [w_pattern_reader_globPart]
    unfold pattern_reader_globPart
    refine Wp.mnew (Mem.one k0 hb) fun h1 Mx => ?_
    have M1 := Mx.swap
    have hs := next_r (n := n) (d := D + 1) M1.at0.1 M1.at0.2.1 hi hu
    rw [hc] at hs
    refine Wp.rdK hs M1 fun h2 M2 => ?_
    have hs2 := next_r (n := n) (d := D + 1) M2.at0.1 M2.at0.2.1 (by omega) hu
    rw [he] at hs2
    repeat (first | (with_reducible refine Wp.lett ?_) | ((with_reducible apply Wp.obind); (with_reducible exact avInt_int _ _)) | ((with_reducible refine Wp.ift ?_ ?_); ((with_reducible apply beq_t); omega)) | ((with_reducible refine Wp.iff ?_ ?_); ((with_reducible apply beq_f); omega)) | rw [newP_eq])
    exact Wp.rdE hs2 M2 fun h' p k1 t1 => ⟨rfl, p, k1, t1⟩
   | some e =>
    refine StepN.ok_of ?_
    rw [w_pattern_reader_globPart]
    unfold pattern_reader_globPart
    refine Wp.mnew (Mem.one k0 hb) fun h1 Mx => ?_
    have M1 := Mx.swap
    have hs := next_r (n := n) (d := D + 1) M1.at0.1 M1.at0.2.1 hi hu
    rw [hc] at hs
    refine Wp.rdK hs M1 fun h2 M2 => ?_
    have hs2 := next_r (n := n) (d := D + 1) M2.at0.1 M2.at0.2.1 (by omega) hu
    rw [he] at hs2
    repeat (first | (with_reducible refine Wp.lett ?_) | ((with_reducible apply Wp.obind); (with_reducible exact avInt_int _ _)) | ((with_reducible refine Wp.ift ?_ ?_); ((with_reducible apply beq_t); omega)) | ((with_reducible refine Wp.iff ?_ ?_); ((with_reducible apply beq_f); omega)) | rw [newP_eq])
    refine Wp.rdK hs2 M2 fun h3 M3 => ?_
    repeat (first | ((with_reducible apply Wp.obind); (with_reducible first | exact avInt_int _ _ | exact avAgg_agg _)) | ((with_reducible apply Wp.callN); (with_reducible exact oneByte_w (d := D + 1) hn (at?_256 he))))
    exact fin_node M3 rfl (NodeT.leaf 2 (spanW_ok 1 zeroW_ok e))
  rw [if_neg h92]
  refine StepN.ok_of ?_
  rw [w_pattern_reader_globPart]
  unfold pattern_reader_globPart
  refine Wp.mnew (Mem.one k0 hb) fun h1 Mx => ?_
  have M1 := Mx.swap
  have hs := next_r (n := n) (d := D + 1) M1.at0.1 M1.at0.2.1 hi hu
  rw [hc] at hs
  refine Wp.rdK hs M1 fun h2 M2 => ?_
  repeat (first | (with_reducible refine Wp.lett ?_) | ((with_reducible apply Wp.obind); (with_reducible first | exact avInt_int _ _ | exact avAgg_agg _)) | ((with_reducible refine Wp.iff ?_ ?_); ((with_reducible apply beq_f); omega)) | ((with_reducible apply Wp.callN); (with_reducible exact oneByte_w (d := D + 1) hn h256)) | rw [newP_eq])
  exact fin_node M2 rfl (NodeT.leaf 2 (spanW_ok 1 zeroW_ok c))
theorem flat_loop {fid : Nat} {F : Nat → Res} (hu : u.length ≤ 1000000) (hF : PartF u fid F) (hdyn : ∀ (call : CallF) (b : Nat) (h : AHeap), dynC Try.prog call (AV.fn fid [.ptr b 0] []) [] h = call fid [.ptr b 0] h) : ∀ (k i : Nat) (l : List Nd), i ≤ u.length → u.length - i < k → l.length ≤ i → ∃ r, FlatP F u l i r ∧ Bnd u i r ∧
   ∀ {n D f b r0 : Nat} {S : List Nat} {h0 H : AHeap} {kc : List (List AV)} {kv : AV} {T0 T1 : List RowT} {z : List AV} {k7 : AV → AHeap → R} {Q : ARes → AHeap → Prop}, 4 ≤ D → 300 < n → u.length - i < f → GrowT TNode 6 kc kv T0 → KidsT l kc T1 → memB TNode h0.ex = false →
    Mem S h0 H ((b, TRd, rdP u i) :: (r0, TNode, z) :: (T0 ++ T1)) →
    (∀ l' j kc kv T0 T1 H', r = .ok (joinN 3 l', j) → GrowT TNode 6 kc kv T0 → KidsT l' kc T1 → Mem S h0 H' ((b, TRd, rdP u j) :: (r0, TNode, z) :: (T0 ++ T1)) → Wp (k7 kv H') Q) →
    (∀ e p H', r = .error e → Rd H' b u p → Tch S h0 H' → Q (.panic (PanA 6 e)) H') →
    Wp (pattern_reader_row_L0 (world n D) (.ptr b 0) (AV.fn fid [.ptr b 0] []) k7 f kv H) Q
 | 0, _, _, _, hk, _ => by omega
 | k + 1, i, l, hi, hk, hli => by
  by_cases hst : u.length ≤ i
  ·refine ⟨_, .stop hst, ⟨Nat.le_refl _, hi⟩, ?_⟩
   intro n D f b r0 S h0 H kc kv T0 T1 z k7 Q hD hn hf g ks hex M hok hbad
   obtain ⟨D, rfl⟩ : ∃ D', D = D' + 4 := ⟨D - 4, by omega⟩
   cases f with
   | zero => omega
   | succ f =>
    have he := ended_r (n := n) (d := D + 3) M.at0.1
    have hfin := hok l i kc kv T0 T1 H rfl g ks M
    rw [pattern_reader_row_L0_s]
    unfold pattern_reader_row_L0b
    rw [decide_eq_true (by omega)] at he
    repeat (first | (with_reducible refine Wp.lett ?_) | ((with_reducible apply Wp.obind); (with_reducible exact avBool_bool _)) | ((with_reducible refine Wp.iff ?_ ?_); (with_reducible exact Bool.not_true)) | ((with_reducible apply Wp.callN); (with_reducible assumption)))
    exact hfin
  ·have hb1 := hF.1 i hi
   cases hr : F i with
   | error e =>
    rw [hr] at hb1
    refine ⟨_, .bad (by omega) hr, hb1, ?_⟩
    intro n D f b r0 S h0 H kc kv T0 T1 z k7 Q hD hn hf g ks hex M hok hbad
    obtain ⟨D, rfl⟩ : ∃ D', D = D' + 4 := ⟨D - 4, by omega⟩
    cases f with
    | zero => omega
    | succ f =>
     have he := ended_r (n := n) (d := D + 3) M.at0.1
     rw [decide_eq_false (by omega)] at he
     have hs := hF.2 (n := n) (D := D + 4) (by omega) hn hi M.at0.1 M.at0.2.1 (by rw [M.ex]; exact hex)
     rw [hr] at hs
     rw [pattern_reader_row_L0_s]
     unfold pattern_reader_row_L0b
     repeat (first | (with_reducible refine Wp.lett ?_) | ((with_reducible apply Wp.obind); (with_reducible exact avBool_bool _)) | ((with_reducible refine Wp.ift ?_ ?_); (with_reducible exact Bool.not_false)) | ((with_reducible first | apply Wp.callN | apply Wp.callK); (with_reducible assumption)))
     rw [hdyn]
     exact Wp.nodeE hs M fun h' p k1 t1 => hbad e p h' rfl k1 t1
   | ok tj =>
    obtain ⟨t, j⟩ := tj
    rw [hr] at hb1
    obtain ⟨b1, b2⟩ := hb1
    obtain ⟨r, q1, q2, q3⟩ := flat_loop hu hF hdyn k j (l ++ [t]) b2 (by omega) (by simp; omega)
    refine ⟨r, .more (by omega) hr q1, ?_, ?_⟩
    ·cases r with
     | error e => exact q2
     | ok tj2 =>
      obtain ⟨a1, a2⟩ := q2
      exact ⟨by omega, a2⟩
    ·intro n D f b r0 S h0 H kc kv T0 T1 z k7 Q hD hn hf g ks hex M hok hbad
     obtain ⟨D, rfl⟩ : ∃ D', D = D' + 4 := ⟨D - 4, by omega⟩
     cases f with
     | zero => omega
     | succ f =>
      have he := ended_r (n := n) (d := D + 3) M.at0.1
      rw [decide_eq_false (by omega)] at he
      have hs := hF.2 (n := n) (D := D + 4) (by omega) hn hi M.at0.1 M.at0.2.1 (by rw [M.ex]; exact hex)
      rw [hr] at hs
      rw [pattern_reader_row_L0_s]
      unfold pattern_reader_row_L0b
      repeat (first | (with_reducible refine Wp.lett ?_) | ((with_reducible apply Wp.obind); (with_reducible exact avBool_bool _)) | ((with_reducible refine Wp.ift ?_ ?_); (with_reducible exact Bool.not_false)) | ((with_reducible first | apply Wp.callN | apply Wp.callK); (with_reducible assumption)))
      rw [hdyn]
      refine Wp.nodeK hs M fun c T h2 kt M3 => ?_
      (((with_reducible apply Wp.obind); (with_reducible exact avAgg_agg _)))
      refine Wp.nodeGrow M3 g ks kt hex (by omega) fun kv' h' T0' g' ks' M4 => ?_
      exact q3 hD hn (by omega) g' ks' hex M4 hok hbad
theorem flat_ok {fid : Nat} {F : Nat → Res} (hu : u.length ≤ 1000000) (hF : PartF u fid F) (hdyn : ∀ (call : CallF) (b : Nat) (h : AHeap), dynC Try.prog call (AV.fn fid [.ptr b 0] []) [] h = call fid [.ptr b 0] h) : ∃ r, FlatP F u [] 0 r ∧ Bnd u 0 r ∧
  ∀ {n D b : Nat} {h : AHeap}, 5 ≤ D → 300 < n → u.length < n → Rd h b u 0 → b < h.next → memB TNode h.ex = false → StepN b u h (world n D 59 [.ptr b 0, AV.fn fid [.ptr b 0] []] h) r := by
 obtain ⟨r, r1, r2, r3⟩ := flat_loop hu hF hdyn (u.length + 1) 0 [] (Nat.zero_le _) (by omega) (Nat.le_refl _)
 refine ⟨r, r1, r2, ?_⟩
 intro n D b h hD hn hn2 k0 hb hx
 obtain ⟨D, rfl⟩ : ∃ D', D = D' + 5 := ⟨D - 5, by omega⟩
 refine StepN.of_main fun Q q1 q2 => ?_
 rw [w_pattern_reader_row]
 unfold pattern_reader_row
 refine Wp.mnew (Mem.one k0 hb) fun h1 Mx => ?_
 rw [newP_eq]
 have M1 := Mx.swap
 ((with_reducible refine Wp.join1 (fun _ _ => ?_)))
 rename_i k7 ek7
 refine r3 (r0 := h.next) (by omega) hn (by omega) (GrowT.nil _ _) .nil hx M1 ?_ q2
 intro l' j kc kv T0 T1 H' hr g ks M2
 refine Wp.go1 ek7 ?_
 obtain ⟨c, T, h2, e2, kt, M3⟩ := inRow_r (n := n) (d := D + 2) (xs := [_, _]) M2 g ks
 repeat (first | ((with_reducible apply Wp.obind); (with_reducible exact avAgg_agg _)) | ((with_reducible apply Wp.callN); (with_reducible assumption)))
 refine (fin_node M3 rfl kt).mono ?_
 rintro _ h3 ⟨c3, T3, rfl, kt3, M4⟩
 exact q1 _ _ _ _ _ hr kt3 M4
end
def dropJ : Res → Except Nat Nd
 | .ok (t, _) => .ok t
 | .error q => .error q
inductive TreeP (u : Bytes) : Int → Except Nat Nd → Prop
 | lit {r : Res} (h : FlatP (partL u) u [] 0 r) : TreeP u 1 (dropJ r)
 | glob {r : Res} (h : FlatP (partG u) u [] 0 r) : TreeP u 2 (dropJ r)
 | re_bad {q : Nat} (h : AltP u [] 0 (.error q)) : TreeP u 3 (.error q)
 | re_end {t : Nd} {j : Nat} (h : AltP u [] 0 (.ok (t, j))) (n : j ≠ u.length) : TreeP u 3 (.error j)
 | re {t : Nd} (h : AltP u [] 0 (.ok (t, u.length))) : TreeP u 3 (.ok t)
def StepT (b : Nat) (u : Bytes) (h : AHeap) (x : R) : Except Nat Nd → Prop
 | .ok t => ∃ c T h' p, x = some (.ret (.agg c), h') ∧ NodeT t c T ∧ Mem [b] h h' ((b, TRd, rdP u p) :: T)
 | .error q => ∃ h' p, x = some (.panic (PanA 6 q), h') ∧ Rd h' b u p ∧ Tch [b] h h'
section
variable {n d b p q i m : Nat} {h h0 : AHeap} {u : Bytes} {Q : ARes → AHeap → Prop} {S : List Nat} {xs rs T T0 T1 : List RowT} {w : List Nat} {x : R} {t : Nd} {c : List AV} {v kv : AV} {l : List Nd} {kc : List (List AV)}
theorem StepT.ok_of (kk : Wp x fun r h' => ∃ c T p, r = .ret (.agg c) ∧ NodeT t c T ∧ Mem [b] h h' ((b, TRd, rdP u p) :: T)) : StepT b u h x (.ok t) := by
 obtain ⟨_, h', e, c, T, p, rfl, k1, k2⟩ := kk
 exact ⟨c, T, h', p, e, k1, k2⟩
theorem StepT.err_of (kk : Wp x fun r h' => r = .panic (PanA 6 q) ∧ ∃ p, Rd h' b u p ∧ Tch [b] h h') : StepT b u h x (.error q) := by
 obtain ⟨_, h', e, rfl, p, k1, k2⟩ := kk
 exact ⟨h', p, e, k1, k2⟩
theorem end_r (k : Rd h b u p) (hp : p = u.length) : world n (d + 2) 62 [.ptr b 0] h = some (.ret (.tup []), h) := by
 have he := ended_r (n := n) (d := d) k
 rw [decide_eq_true hp] at he
 apply Wp.eq
 rw [w_pattern_reader_end]
 unfold pattern_reader_end
 repeat (first | (with_reducible refine Wp.join0 (fun _ _ => ?_)) | (with_reducible refine Wp.lett ?_) | ((with_reducible apply Wp.obind); (with_reducible exact avBool_bool _)) | ((with_reducible refine Wp.iff ?_ ?_); (with_reducible exact Bool.not_true)) | ((with_reducible apply Wp.callN); (with_reducible assumption)) | (with_reducible refine Wp.go0 (by assumption) ?_))
 exact Wp.ret ⟨rfl, rfl⟩
theorem end_bad (k : Rd h b u p) (hp : p ≠ u.length) : world n (d + 2) 62 [.ptr b 0] h = some (.panic (PanA 6 p), h) := by
 have he := ended_r (n := n) (d := d) k
 rw [decide_eq_false hp] at he
 apply Wp.eq
 rw [w_pattern_reader_end]
 unfold pattern_reader_end
 have hr := refuse_r (n := n) (d := d) (h := h) 6 p
 have k0 : RowH h b 70 [strA u, .int .i64 (p : Int)] := k
 clear k
 repeat (first | (with_reducible refine Wp.join0 (fun _ _ => ?_)) | (with_reducible refine Wp.lett ?_) | ((with_reducible apply Wp.obind); first | (with_reducible first | exact avInt_int _ _ | exact avBool_bool _ | exact nilC_ptr _ _ | exact fldP_ptr _ _ _) | ((with_reducible apply RowH.cell'); (with_reducible assumption); rfl)) | ((with_reducible refine Wp.ift ?_ ?_); (with_reducible exact Bool.not_false)) | ((with_reducible first | apply Wp.callN | apply Wp.callK); (with_reducible assumption)))
 exact Wp.callP hr ⟨rfl, rfl⟩
theorem tree_r (hu : u.length ≤ 1000000) (kind : Int) (hk : kind = 1 ∨ kind = 2 ∨ kind = 3) : ∃ r, TreeP u kind r ∧ (∀ q, r = .error q → q ≤ u.length) ∧
  ∀ {n D b : Nat} {h : AHeap}, 4 * u.length + 12 ≤ D → 300 < n → u.length + 5 < n → Rd h b u 0 → b < h.next → memB TNode h.ex = false → StepT b u h (world n D 40 [.ptr b 0, .int .i64 kind] h) r := by
 rcases hk with rfl | rfl | rfl
 ·obtain ⟨r, r1, r2, r3⟩ := flat_ok hu (partL_f hu) dynL
  refine ⟨_, .lit r1, ?_, ?_⟩
  ·intro q hh
   cases r with
   | error e =>
    cases hh
    exact r2
   | ok tj => cases hh
  ·intro n D b h hD hn hn2 k0 hb hx
   obtain ⟨D, rfl⟩ : ∃ D', D = D' + 6 := ⟨D - 6, by omega⟩
   cases r with
   | error e =>
    refine StepT.err_of ?_
    rw [w_pattern_reader_tree]
    unfold pattern_reader_tree
    refine Wp.mnew (Mem.one k0 hb) fun h1 Mx => ?_
    have M1 := Mx.swap
    have hs := r3 (n := n) (D := D + 5) (by omega) hn (by omega) M1.at0.1 M1.at0.2.1 (by rw [M1.ex]; exact hx)
    repeat (first | (with_reducible refine Wp.lett ?_) | ((with_reducible refine Wp.iff ?_ ?_); ((with_reducible apply beq_f); omega)) | rw [newP_eq])
    exact Wp.nodeE hs M1 fun h' p k1 t1 => ⟨rfl, p, k1, t1⟩
   | ok tj =>
    obtain ⟨t, j⟩ := tj
    refine StepT.ok_of ?_
    rw [w_pattern_reader_tree]
    unfold pattern_reader_tree
    refine Wp.mnew (Mem.one k0 hb) fun h1 Mx => ?_
    have M1 := Mx.swap
    have hs := r3 (n := n) (D := D + 5) (by omega) hn (by omega) M1.at0.1 M1.at0.2.1 (by rw [M1.ex]; exact hx)
    repeat (first | (with_reducible refine Wp.lett ?_) | ((with_reducible refine Wp.iff ?_ ?_); ((with_reducible apply beq_f); omega)) | rw [newP_eq])
    refine Wp.nodeK hs M1 fun c T h2 kt M3 => ?_
    (((with_reducible apply Wp.obind); (with_reducible exact avAgg_agg _)))
    refine (fin_node M3 rfl kt).mono ?_
    rintro _ h3 ⟨c3, T3, rfl, kt3, M4⟩
    exact ⟨c3, T3, j, rfl, kt3, M4⟩
 ·obtain ⟨r, r1, r2, r3⟩ := flat_ok hu (partG_f hu) dynG
  refine ⟨_, .glob r1, ?_, ?_⟩
  ·intro q hh
   cases r with
   | error e =>
    cases hh
    exact r2
   | ok tj => cases hh
  ·intro n D b h hD hn hn2 k0 hb hx
   obtain ⟨D, rfl⟩ : ∃ D', D = D' + 6 := ⟨D - 6, by omega⟩
   cases r with
   | error e =>
    refine StepT.err_of ?_
    rw [w_pattern_reader_tree]
    unfold pattern_reader_tree
    refine Wp.mnew (Mem.one k0 hb) fun h1 Mx => ?_
    have M1 := Mx.swap
    have hs := r3 (n := n) (D := D + 5) (by omega) hn (by omega) M1.at0.1 M1.at0.2.1 (by rw [M1.ex]; exact hx)
    repeat (first | (with_reducible refine Wp.lett ?_) | ((with_reducible refine Wp.ift ?_ ?_); ((with_reducible apply beq_t); omega)) | rw [newP_eq])
    exact Wp.nodeE hs M1 fun h' p k1 t1 => ⟨rfl, p, k1, t1⟩
   | ok tj =>
    obtain ⟨t, j⟩ := tj
    refine StepT.ok_of ?_
    rw [w_pattern_reader_tree]
    unfold pattern_reader_tree
    refine Wp.mnew (Mem.one k0 hb) fun h1 Mx => ?_
    have M1 := Mx.swap
    have hs := r3 (n := n) (D := D + 5) (by omega) hn (by omega) M1.at0.1 M1.at0.2.1 (by rw [M1.ex]; exact hx)
    repeat (first | (with_reducible refine Wp.lett ?_) | ((with_reducible refine Wp.ift ?_ ?_); ((with_reducible apply beq_t); omega)) | rw [newP_eq])
    refine Wp.nodeK hs M1 fun c T h2 kt M3 => ?_
    (((with_reducible apply Wp.obind); (with_reducible exact avAgg_agg _)))
    refine (fin_node M3 rfl kt).mono ?_
    rintro _ h3 ⟨c3, T3, rfl, kt3, M4⟩
    exact ⟨c3, T3, j, rfl, kt3, M4⟩
 ·obtain ⟨r, r1, r2, r3⟩ := alts_ok hu u.length 0 (Nat.zero_le _) (by omega)
  cases r with
  | error e =>
   refine ⟨_, .re_bad r1, fun q hh => by cases hh; exact r2, ?_⟩
   intro n D b h hD hn hn2 k0 hb hx
   obtain ⟨D, rfl⟩ : ∃ D', D = D' + 6 := ⟨D - 6, by omega⟩
   refine StepT.err_of ?_
   rw [w_pattern_reader_tree]
   unfold pattern_reader_tree
   refine Wp.mnew (Mem.one k0 hb) fun h1 Mx => ?_
   have M1 := Mx.swap
   have hs := r3 (n := n) (D := D + 5) (by omega) hn hn2 M1.at0.1 M1.at0.2.1 (by rw [M1.ex]; exact hx)
   repeat (first | (with_reducible refine Wp.lett ?_) | ((with_reducible refine Wp.ift ?_ ?_); ((with_reducible apply beq_t); omega)) | ((with_reducible refine Wp.iff ?_ ?_); ((with_reducible apply beq_f); omega)) | rw [newP_eq])
   exact Wp.nodeE hs M1 fun h' p k1 t1 => ⟨rfl, p, k1, t1⟩
  | ok tj =>
   obtain ⟨t, j⟩ := tj
   by_cases hj : j = u.length
   ·subst hj
    refine ⟨_, .re r1, fun q hh => (by cases hh), ?_⟩
    intro n D b h hD hn hn2 k0 hb hx
    obtain ⟨D, rfl⟩ : ∃ D', D = D' + 6 := ⟨D - 6, by omega⟩
    refine StepT.ok_of ?_
    rw [w_pattern_reader_tree]
    unfold pattern_reader_tree
    refine Wp.mnew (Mem.one k0 hb) fun h1 Mx => ?_
    have M1 := Mx.swap
    have hs := r3 (n := n) (D := D + 5) (by omega) hn hn2 M1.at0.1 M1.at0.2.1 (by rw [M1.ex]; exact hx)
    repeat (first | (with_reducible refine Wp.lett ?_) | ((with_reducible refine Wp.ift ?_ ?_); ((with_reducible apply beq_t); omega)) | ((with_reducible refine Wp.iff ?_ ?_); ((with_reducible apply beq_f); omega)) | rw [newP_eq])
    refine Wp.nodeK hs M1 fun c T h2 kt M3 => ?_
    (((with_reducible apply Wp.obind); (with_reducible exact avAgg_agg _)))
    refine Wp.mnew M3 fun h3 M4 => ?_
    rw [newP_eq]
    refine Wp.sa0 M4 kt.len rfl kt.one fun h4 M5 => ?_
    have he := end_r (n := n) (d := D + 3) M5.at1.1 rfl
    refine Wp.callK he ?_
    refine Wp.lr0 M5 kt.len ?_
    refine (fin_node (mem_mid (xs := [_]) (T0 := [_]) M5.swap) rfl kt).mono ?_
    rintro _ h3 ⟨c3, T3, rfl, kt3, M6⟩
    exact ⟨c3, T3, _, rfl, kt3, M6⟩
   ·refine ⟨_, .re_end r1 hj, fun q hh => by cases hh; exact r2.2, ?_⟩
    intro n D b h hD hn hn2 k0 hb hx
    obtain ⟨D, rfl⟩ : ∃ D', D = D' + 6 := ⟨D - 6, by omega⟩
    refine StepT.err_of ?_
    rw [w_pattern_reader_tree]
    unfold pattern_reader_tree
    refine Wp.mnew (Mem.one k0 hb) fun h1 Mx => ?_
    have M1 := Mx.swap
    have hs := r3 (n := n) (D := D + 5) (by omega) hn hn2 M1.at0.1 M1.at0.2.1 (by rw [M1.ex]; exact hx)
    repeat (first | (with_reducible refine Wp.lett ?_) | ((with_reducible refine Wp.ift ?_ ?_); ((with_reducible apply beq_t); omega)) | ((with_reducible refine Wp.iff ?_ ?_); ((with_reducible apply beq_f); omega)) | rw [newP_eq])
    refine Wp.nodeK hs M1 fun c T h2 kt M3 => ?_
    (((with_reducible apply Wp.obind); (with_reducible exact avAgg_agg _)))
    refine Wp.mnew M3 fun h3 M4 => ?_
    rw [newP_eq]
    refine Wp.sa0 M4 kt.len rfl kt.one fun h4 M5 => ?_
    have he := end_bad (n := n) (d := D + 3) M5.at1.1 hj
    exact Wp.callP he ⟨rfl, _, M5.at1.1, M5.tch⟩
end
end Go.Proofs.Yteibdplpbcobbaa
namespace Go.Proofs.Yteibdplpbcobbaa
open Go.RowKit Abs
theorem callKd_eq_ret {x : R} {v : AV} {h : AHeap} {kp k : AV → AHeap → R} {Q : ARes → AHeap → Prop} (e : x = some (.ret v, h)) (hk : Wp (k v h) Q) : Wp (callKd x kp k) Q := by rw [e, callKd_ret]; exact hk
theorem callKd_eq_pan {x : R} {v : AV} {h : AHeap} {kp k : AV → AHeap → R} {Q : ARes → AHeap → Prop} (e : x = some (.panic v, h)) (hk : Wp (kp v h) Q) : Wp (callKd x kp k) Q := by rw [e, callKd_panic]; exact hk
theorem neqNil (h : AHeap) : opBin Try.prog h .neq 20 true (some .nifc) (some .nifc) = some (.val (.bool false), h) := by kernel_rfl
theorem neqPan (h : AHeap) (e : Int) (q : Nat) : opBin Try.prog h .neq 20 true (some (PanA e q)) (some .nifc) = some (.val (.bool true), h) := by kernel_rfl
theorem assertPan (h : AHeap) (e : Int) (q : Nat) : opAssert Try.prog h 91 true (some (PanA e q)) = some (.val (.tup [.agg [.int .i64 e, .int .i64 (q : Int)], .bool true]), h) := by kernel_rfl
abbrev TPtr : Nat := 68
abbrev TSpot : Nat := 27
section
variable {n d pc rd ft tx mo : Nat} {h h0 : AHeap} {u t : Bytes} {most : Int} {fc : List AV} {S : List Nat} {Q : ARes → AHeap → Prop} {ys : List RowT}
theorem recov_nil {call : CallF} {b : Nat} {H : AHeap} : pattern_guard_1_d call n (.ptr b 0) .nifc H = some (.ret (.tup []), H) := by
 apply Wp.eq
 unfold pattern_guard_1_d
 repeat (first | (with_reducible first | refine Wp.join0 (fun _ _ => ?_) | refine Wp.join1 (fun _ _ => ?_) | refine Wp.join2 (fun _ _ => ?_)) | ((with_reducible first | refine Wp.lettw ?_ ?_ ?_ | refine Wp.lettu64 ?_ ?_ ?_ | refine Wp.lettu8 ?_ ?_ ?_ | refine Wp.lettu32 ?_ ?_ ?_); omega; omega) | (with_reducible refine Wp.lett ?_) | ((with_reducible apply Wp.obind); first | (with_reducible first | exact avInt_int _ _ | exact avBool_bool _ | exact avStr_str _ | exact nilC_ptr _ _ | exact fldP_ptr _ _ _ | exact avAgg_agg _ | exact extT_0 _ _ | exact extT_1 _ _ _ | exact extT_2 _ _ _ _ | assumption) | ((with_reducible first | apply RowH.cell' | apply RowH.ldAll); (with_reducible assumption); rfl)) | ((with_reducible refine Wp.ift ?_ ?_); first | (with_reducible first | rfl | assumption | exact Bool.not_false) | ((with_reducible first | apply decide_eq_true | apply not_df | apply bne_t | apply beq_t); omega)) | ((with_reducible refine Wp.iff ?_ ?_); first | (with_reducible first | rfl | assumption | exact Bool.not_true) | ((with_reducible first | apply decide_eq_false | apply not_dt | apply bne_f | apply beq_f); omega)) | ((with_reducible first | apply Wp.callN | apply Wp.callK); (with_reducible assumption)) | ((with_reducible apply Wp.outK); (with_reducible first | exact neqNil _ | assumption)) | (with_reducible first | refine Wp.go0 (by assumption) ?_ | refine Wp.go1 (by assumption) ?_ | refine Wp.go2 (by assumption) ?_) | rw [newP_eq])
 exact Wp.ret ⟨rfl, rfl⟩
theorem recov_pan {call : CallF} {b : Nat} {H : AHeap} {l : List AV} (hl : l.length = 2) (Mx : Mem S h0 H ((b, TSpot, l) :: ys)) (e : Int) (q : Nat) : ∃ H', pattern_guard_1_d call n (.ptr b 0) (PanA e q) H = some (.ret (.tup []), H') ∧ Mem S h0 H' ((b, TSpot, [.int .i64 e, .int .i64 (q : Int)]) :: ys) := by
 apply Wp.ex
 unfold pattern_guard_1_d
 repeat (first | ((with_reducible apply Wp.obind); (with_reducible first | exact avInt_int _ _ | exact avBool_bool _ | exact avStr_str _ | exact nilC_ptr _ _ | exact fldP_ptr _ _ _)) | ((with_reducible apply Wp.ld0 Mx); rfl) | ((with_reducible apply Wp.lr0 Mx); rfl) | ((with_reducible apply Wp.ms0 Mx); exact Nat.le_of_ble_eq_true rfl; rfl; intro _ Mz; clear Mx; have Mx := Mz; clear Mz) | ((with_reducible apply Wp.sa0 Mx); rfl; rfl; (first | (with_reducible assumption) | rfl); intro _ Mz; clear Mx; have Mx := Mz; clear Mz) | ((with_reducible apply Wp.ld1 Mx); rfl) | ((with_reducible apply Wp.lr1 Mx); rfl) | ((with_reducible apply Wp.ms1 Mx); exact Nat.le_of_ble_eq_true rfl; rfl; intro _ Mz; clear Mx; have Mx := Mz; clear Mz) | ((with_reducible apply Wp.sa1 Mx); rfl; rfl; (first | (with_reducible assumption) | rfl); intro _ Mz; clear Mx; have Mx := Mz; clear Mz) | ((with_reducible apply Wp.mnew Mx); intro _ Mz; clear Mx; have Mx := Mz; clear Mz) | ((with_reducible apply Wp.mbox Mx); (first | (with_reducible assumption) | rfl); intro _ Mz; clear Mx; have Mx := Mz; clear Mz) | ((with_reducible refine Wp.chk ?_ ?_); focus ((repeat' (first | (with_reducible exact rfl) | (with_reducible apply and_t) | ((with_reducible apply Mem.re0 Mx); kernel_rfl; rfl) | ((with_reducible apply Mem.rr0 Mx); kernel_rfl; kernel_rfl) | ((with_reducible apply Mem.re1 Mx); kernel_rfl; rfl) | ((with_reducible apply Mem.rr1 Mx); kernel_rfl; kernel_rfl))); done)) | (with_reducible first | refine Wp.join0 (fun _ _ => ?_) | refine Wp.join1 (fun _ _ => ?_) | refine Wp.join2 (fun _ _ => ?_)) | ((with_reducible first | refine Wp.lettw ?_ ?_ ?_ | refine Wp.lettu64 ?_ ?_ ?_ | refine Wp.lettu8 ?_ ?_ ?_ | refine Wp.lettu32 ?_ ?_ ?_); omega; omega) | (with_reducible refine Wp.lett ?_) | ((with_reducible apply Wp.obind); first | (with_reducible first | exact avInt_int _ _ | exact avBool_bool _ | exact avStr_str _ | exact nilC_ptr _ _ | exact fldP_ptr _ _ _ | exact avAgg_agg _ | exact extT_0 _ _ | exact extT_1 _ _ _ | exact extT_2 _ _ _ _ | assumption) | ((with_reducible first | apply RowH.cell' | apply RowH.ldAll); (with_reducible assumption); rfl)) | ((with_reducible refine Wp.ift ?_ ?_); first | (with_reducible first | rfl | assumption | exact Bool.not_false) | ((with_reducible first | apply decide_eq_true | apply not_df | apply bne_t | apply beq_t); omega)) | ((with_reducible refine Wp.iff ?_ ?_); first | (with_reducible first | rfl | assumption | exact Bool.not_true) | ((with_reducible first | apply decide_eq_false | apply not_dt | apply bne_f | apply beq_f); omega)) | ((with_reducible first | apply Wp.callN | apply Wp.callK); (with_reducible assumption)) | ((with_reducible apply Wp.outK); (with_reducible first | exact neqPan _ _ _ | exact assertPan _ _ _ | assumption)) | (with_reducible first | refine Wp.go0 (by assumption) ?_ | refine Wp.go1 (by assumption) ?_ | refine Wp.go2 (by assumption) ?_) | rw [newP_eq])
 refine Wp.sa1 Mx rfl hl rfl (fun h' M' => ?_)
 repeat (first | (with_reducible first | refine Wp.join0 (fun _ _ => ?_) | refine Wp.join1 (fun _ _ => ?_) | refine Wp.join2 (fun _ _ => ?_)) | ((with_reducible first | refine Wp.lettw ?_ ?_ ?_ | refine Wp.lettu64 ?_ ?_ ?_ | refine Wp.lettu8 ?_ ?_ ?_ | refine Wp.lettu32 ?_ ?_ ?_); omega; omega) | (with_reducible refine Wp.lett ?_) | ((with_reducible apply Wp.obind); first | (with_reducible first | exact avInt_int _ _ | exact avBool_bool _ | exact avStr_str _ | exact nilC_ptr _ _ | exact fldP_ptr _ _ _ | exact avAgg_agg _ | exact extT_0 _ _ | exact extT_1 _ _ _ | exact extT_2 _ _ _ _ | assumption) | ((with_reducible first | apply RowH.cell' | apply RowH.ldAll); (with_reducible assumption); rfl)) | ((with_reducible refine Wp.ift ?_ ?_); first | (with_reducible first | rfl | assumption | exact Bool.not_false) | ((with_reducible first | apply decide_eq_true | apply not_df | apply bne_t | apply beq_t); omega)) | ((with_reducible refine Wp.iff ?_ ?_); first | (with_reducible first | rfl | assumption | exact Bool.not_true) | ((with_reducible first | apply decide_eq_false | apply not_dt | apply bne_f | apply beq_f); omega)) | ((with_reducible first | apply Wp.callN | apply Wp.callK); (with_reducible assumption)) | ((with_reducible apply Wp.outK); (with_reducible assumption)) | (with_reducible first | refine Wp.go0 (by assumption) ?_ | refine Wp.go1 (by assumption) ?_ | refine Wp.go2 (by assumption) ?_) | rw [newP_eq])
 exact Wp.ret ⟨rfl, M'.pop⟩
end
theorem dynT (call : CallF) (a b c : Nat) (h : AHeap) : dynC Try.prog call (AV.fn 39 [] [.ptr a 0, .ptr b 0, .ptr c 0]) [] h = call 39 [.ptr a 0, .ptr b 0, .ptr c 0] h := by
 have e : callV Try.prog h [] (some (AV.fn 39 [] [.ptr a 0, .ptr b 0, .ptr c 0])) = some (.call 39 [.ptr a 0, .ptr b 0, .ptr c 0], h) := by kernel_rfl
 unfold dynC
 rw [e]
section
variable {n D d b p q i m : Nat} {h h0 : AHeap} {u : Bytes} {Q : ARes → AHeap → Prop} {S : List Nat} {xs rs rs' T T0 T1 : List RowT} {w : List Nat} {x : R} {t : Nd} {c : List AV} {v kv fv : AV} {l : List Nd} {kc : List (List AV)}
noncomputable abbrev rowsT (pc rd sp nd pt p : Nat) (u : Bytes) (kind : Int) (c : List AV) : List RowT := [(pc, TPtr, [.ptr rd 0]), (rd, TRd, rdP u p), (sp, TSpot, [.int .i64 0, .int .i64 0]), (nd, TNode, c), (pt, 35, [.int .i64 kind, strA u])]
theorem t1_ok {pc rd sp nd pt : Nat} {kind : Int} {z : List AV} (hz : z.length = 6) (hs : ∀ (h : AHeap), Rd h rd u 0 → rd < h.next → memB TNode h.ex = false → StepT rd u h (world n D 40 [.ptr rd 0, .int .i64 kind] h) (.ok t)) (M : Mem S h0 h (rowsT pc rd sp nd pt 0 u kind z ++ xs)) (hx : memB TNode h0.ex = false) :
  ∃ c T h' p, world n (D + 1) 39 [.ptr pc 0, .ptr pt 0, .ptr nd 0] h = some (.ret (.tup []), h') ∧ NodeT t c T ∧ Mem S h0 h' (rowsT pc rd sp nd pt p u kind c ++ (xs ++ T)) := by
 have Mx : Mem S h0 h ((pc, TPtr, [.ptr rd 0]) :: (rd, TRd, rdP u 0) :: (sp, TSpot, [.int .i64 0, .int .i64 0]) :: (nd, TNode, z) :: (pt, 35, [.int .i64 kind, strA u]) :: xs) := M
 obtain ⟨c, T, h1, p, e1, kt, M1⟩ := hs h Mx.at1.1 Mx.at1.2.1 (by rw [Mx.ex]; exact hx)
 have M2 : Mem S h0 h1 ((rd, TRd, rdP u p) :: (pc, TPtr, [.ptr rd 0]) :: (sp, TSpot, [.int .i64 0, .int .i64 0]) :: (nd, TNode, z) :: (pt, 35, [.int .i64 kind, strA u]) :: (xs ++ T)) := Mem.frameT (xs := [_]) (ys := [_]) Mx.swap M1
 suffices hK : Wp (world n (D + 1) 39 [.ptr pc 0, .ptr pt 0, .ptr nd 0] h) fun r h' => r = .ret (.tup []) ∧ Mem S h0 h' (rowsT pc rd sp nd pt p u kind c ++ (xs ++ T)) by
  obtain ⟨_, h', e, rfl, M'⟩ := hK
  exact ⟨c, T, h', p, e, kt, M'⟩
 rw [w_pattern_Tree_1]
 unfold pattern_Tree_1
 repeat (first | ((with_reducible apply Wp.obind); (with_reducible first | exact avInt_int _ _ | exact fldP_ptr _ _ _)) | ((with_reducible apply Wp.ld0 Mx); rfl) | ((with_reducible apply Wp.ld4 Mx); rfl) | ((with_reducible apply Wp.obind); (with_reducible exact avAgg_agg _)) | ((with_reducible apply Wp.callK); (with_reducible assumption)))
 refine Wp.sa3 M2 kt.len hz kt.one fun h2 M3 => ?_
 exact Wp.ret ⟨rfl, M3.swap⟩
theorem t1_bad {pc rd sp nd pt : Nat} {kind : Int} {z : List AV} (hs : ∀ (h : AHeap), Rd h rd u 0 → rd < h.next → memB TNode h.ex = false → StepT rd u h (world n D 40 [.ptr rd 0, .int .i64 kind] h) (.error q)) (M : Mem S h0 h (rowsT pc rd sp nd pt 0 u kind z ++ xs)) (hx : memB TNode h0.ex = false) :
  ∃ h' p, world n (D + 1) 39 [.ptr pc 0, .ptr pt 0, .ptr nd 0] h = some (.panic (PanA 6 q), h') ∧ Mem S h0 h' (rowsT pc rd sp nd pt p u kind z ++ xs) := by
 have Mx : Mem S h0 h ((pc, TPtr, [.ptr rd 0]) :: (rd, TRd, rdP u 0) :: (sp, TSpot, [.int .i64 0, .int .i64 0]) :: (nd, TNode, z) :: (pt, 35, [.int .i64 kind, strA u]) :: xs) := M
 obtain ⟨h1, p, e1, k1, t1⟩ := hs h Mx.at1.1 Mx.at1.2.1 (by rw [Mx.ex]; exact hx)
 suffices hK : Wp (world n (D + 1) 39 [.ptr pc 0, .ptr pt 0, .ptr nd 0] h) fun r h' => r = .panic (PanA 6 q) ∧ Mem S h0 h' (rowsT pc rd sp nd pt p u kind z ++ xs) by
  obtain ⟨_, h', e, rfl, M'⟩ := hK
  exact ⟨h', p, e, M'⟩
 rw [w_pattern_Tree_1]
 unfold pattern_Tree_1
 repeat (first | ((with_reducible apply Wp.obind); (with_reducible first | exact avInt_int _ _ | exact fldP_ptr _ _ _)) | ((with_reducible apply Wp.ld0 Mx); rfl) | ((with_reducible apply Wp.ld4 Mx); rfl))
 exact Wp.callP e1 ⟨rfl, Mem.upd (xs := [_]) Mx t1 k1⟩
theorem loL_last : ∀ (l : List AV) (x : AV) (N : Nat), AV.loL N (l ++ [x]) = true → AV.lo N x = true
 | [], x, N, h => by
  have : (AV.lo N x && AV.loL N []) = true := h
  simpa [AV.loL] using this
 | y :: l, x, N, h => by
  have : (AV.lo N y && AV.loL N (l ++ [x])) = true := h
  rw [Bool.and_eq_true] at this
  exact loL_last l x N this.2
theorem NodeT.low {N : Nat} (k : NodeT t c T) (hn : ∀ y ∈ T, N ≤ y.1) (hl : AV.loL N c = true) : T = [] := by
 cases k with
 | mk hw g ks =>
  rename_i op w kids kc kv T0 T1
  have h2 := loL_last (.int .i64 (op : Int) :: wordsA w) kv N hl
  rcases g.2 with ⟨rfl, rfl, rfl⟩ | ⟨_, q, rfl, rfl⟩
  ·cases ks
   rfl
  ·have h3 := hn (q, TNode, kc.flatten) (by simp)
   have h4 : q < N := Nat.le_of_ble_eq_true h2
   exact absurd h3 (by show ¬ N ≤ q; omega)
end
end Go.Proofs.Yteibdplpbcobbaa
