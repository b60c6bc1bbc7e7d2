/- What lexBlanks_proved stands on, part 9 of 10. -/
import Derived.Test.YtjopejiooipmkaaDoorLka8
namespace Go.Proofs.YtjopejiooipmkaaDoor
open Go.RowKit Abs
set_option maxHeartbeats 4000000
set_option maxRecDepth 20000
noncomputable def law12_LexBack (call : CallF) (_ : Nat) (t0 : Bytes) (h : AHeap) : R :=
 callN (call 6 [] h) fun r8 h_4 =>
 obind (avBool r8) fun t8 =>
 lett (!t8) fun (t9 : Bool) =>
 ifB t9
 (
  some (.ret (.bool false), h_4))
 (
  callN (call 7 [strA t0] h_4) fun r11 h_11 =>
  obind (avBool r11) fun t11 =>
  ifB t11
  (
   some (.ret (.bool true), h_11))
  (
   callN (call 8 [strA t0] h_11) fun r14 h_16 =>
   obind (extT 0 r14) fun v15 =>
   obind (extT 1 r14) fun v16 =>
   obind (avAgg v16) fun t16 =>
   lett (newH h_16 27 [.int .i64 0, .int .i64 0]) fun h_21 =>
   obind (stRow h_21 2 t16 (newP h_16)) fun h_23 =>
   obind (ldCell h_23 (AV.ptr (AHeap.next h_16) 0)) fun v18 =>
   obind (avInt .i64 v18) fun t18 =>
   lett ((t18 : Int) != 0) fun (t19 : Bool) =>
   ifB t19
   (
    obind (lenL v15) fun t21 =>
    lett ((t21 : Int) == 0) fun (t22 : Bool) =>
    lett (fun (t27 : Bool) (h_33 : AHeap) =>
     lett (fun (t34 : Bool) (h_36 : AHeap) =>
      some (.ret (.bool t34), h_36)) fun j34 =>
     ifB t27
     (
      obind (ldCell h_33 (AV.ptr (AHeap.next h_16) 1)) fun v30 =>
      obind (avInt .i64 v30) fun t30 =>
      lett (decide (t30 ≤ (lenS t0))) fun (t33 : Bool) =>
      j34 t33 h_33)
     (
      j34 false h_33)) fun j27 =>
    ifB t22
    (
     obind (ldCell h_23 (AV.ptr (AHeap.next h_16) 1)) fun v25 =>
     obind (avInt .i64 v25) fun t25 =>
     lett (decide (t25 ≥ 0)) fun (t26 : Bool) =>
     j27 t26 h_23)
    (
     j27 false h_23))
   (
    callK (call 9 [v15] h_23) fun r36 h_46 =>
    obind (avStr r36) fun t36 =>
    callN (call 8 [strA t36] h_46) fun r39 h_50 =>
    obind (extT 0 r39) fun v40 =>
    obind (extT 1 r39) fun v41 =>
    obind (avAgg v41) fun t41 =>
    lett (newH h_50 27 [.int .i64 0, .int .i64 0]) fun h_55 =>
    obind (stRow h_55 2 t41 (newP h_50)) fun h_57 =>
    obind (ldRow h_57 2 (newP h_50)) fun t42 =>
    obind (eqOther Pg 27 (.agg t42) (.agg ([.int .i64 0, .int .i64 0] : List AV))) fun t44 =>
    lett (fun (t51 : Bool) (h_62 : AHeap) =>
     lett (fun (t56 : Bool) (h_65 : AHeap) =>
      lett (fun (t62 : Bool) (h_68 : AHeap) =>
       some (.ret (.bool t62), h_68)) fun j62 =>
      ifB t56
      (
       callK (call 9 [v40] h_65) fun r59 h_71 =>
       obind (avStr r59) fun t59 =>
       lett (eqS t59 t36) fun (t61 : Bool) =>
       j62 t61 h_71)
      (
       j62 false h_65)) fun j56 =>
     ifB t51
     (
      callN (call 10 [v40, v15] h_62) fun r55 h_76 =>
      obind (avBool r55) fun t55 =>
      j56 t55 h_76)
     (
      j56 false h_62)) fun j51 =>
    ifB t44
    (
     lett (decide ((lenS t36) ≤ (lenS t0))) fun (t50 : Bool) =>
     j51 t50 h_57)
    (
     j51 false h_57))))
noncomputable def law12_LexBack_fn (call : CallF) (n : Nat) : FnT := fun args h => match args with
 | [x0] => obind (avStr x0) fun t0 => law12_LexBack call n t0 h
 | _ => none
noncomputable def ref12_Same_L0b (t0 : AV) (t1 : AV) (k11 : AHeap → R) (self : Int → AHeap → R) (t5 : Int) (h_15 : AHeap) : R :=
 obind (lenL t0) fun t13 =>
 lett (decide (t5 < t13)) fun (t14 : Bool) =>
 ifB t14
 (
  lett (fun (t53 : Bool) (h_24 : AHeap) =>
   ifB t53
   (
    some (.ret (.bool false), h_24))
   (
    lett (IntKind.i64.wrap (t5 + 1)) fun (t16 : Int) =>
    self t16 h_24)) fun k23 =>
  obind (idxP 4 t0 t5) fun t19 =>
  obind (fldP 0 t19) fun t20 =>
  obind (ldCell h_15 t20) fun v21 =>
  obind (avInt .i64 v21) fun t21 =>
  obind (idxP 4 t1 t5) fun t24 =>
  obind (fldP 0 t24) fun t25 =>
  obind (ldCell h_15 t25) fun v26 =>
  obind (avInt .i64 v26) fun t26 =>
  lett ((t21 : Int) != t26) fun (t27 : Bool) =>
  ifB t27
  (
   k23 true h_15)
  (
   obind (idxP 4 t0 t5) fun t31 =>
   obind (fldP 1 t31) fun t32 =>
   obind (ldCell h_15 t32) fun v33 =>
   obind (avStr v33) fun t33 =>
   obind (idxP 4 t1 t5) fun t36 =>
   obind (fldP 1 t36) fun t37 =>
   obind (ldCell h_15 t37) fun v38 =>
   obind (avStr v38) fun t38 =>
   lett (!eqS t33 t38) fun (t39 : Bool) =>
   ifB t39
   (
    k23 true h_15)
   (
    obind (idxP 4 t0 t5) fun t44 =>
    obind (fldP 2 t44) fun t45 =>
    obind (ldCell h_15 t45) fun v46 =>
    obind (avInt .i64 v46) fun t46 =>
    obind (idxP 4 t1 t5) fun t49 =>
    obind (fldP 2 t49) fun t50 =>
    obind (ldCell h_15 t50) fun v51 =>
    obind (avInt .i64 v51) fun t51 =>
    lett ((t46 : Int) != t51) fun (t52 : Bool) =>
    k23 t52 h_15)))
 (
  k11 h_15)
noncomputable def ref12_Same_L0 (t0 : AV) (t1 : AV) (k11 : AHeap → R) : Nat → Int → AHeap → R := iterR (fun _ _ => none) (ref12_Same_L0b t0 t1 k11)
theorem ref12_Same_L0_s (t0 : AV) (t1 : AV) (k11 : AHeap → R) (m : Nat) : ref12_Same_L0 t0 t1 k11 (m + 1) = ref12_Same_L0b t0 t1 k11 (ref12_Same_L0 t0 t1 k11 m) := rfl
noncomputable def ref12_Same (_ : CallF) (n : Nat) (t0 : AV) (t1 : AV) (h : AHeap) : R :=
 obind (lenL t0) fun t7 =>
 obind (lenL t1) fun t9 =>
 lett ((t7 : Int) != t9) fun (t10 : Bool) =>
 ifB t10
 (
  some (.ret (.bool false), h))
 (
  lett (fun  (h_12 : AHeap) =>
   some (.ret (.bool true), h_12)) fun k11 =>
  ref12_Same_L0 t0 t1 k11 n 0 h)
theorem ref12_Same_ok {call : CallF} (hc : SaysAll Pg call) {n : Nat} {t0 : AV} {t1 : AV} {h : AHeap} {rR : ARes} {hR : AHeap} (z : ref12_Same call n t0 t1 h = some (rR, hR)) : Says Pg 10 [t0, t1] h rR hR := by
 unfold ref12_Same at z
 refine says_of (fn := Tryd.f10) Tryd.func10 (c := codeOf Tryd.f10) (by kernel_rfl) (by kernel_rfl) (fun w0 m0 => ?_)
 refine W.weaken (l' := [(0, t0), (1, t1)]) (Fr.c (Fr.c Fr.n)) ?_
 refine W.s (fun _ n1 _ _ _ => ?_)
 refine W.r ?_
 refine WL.a (some 4) (.bool false) h ?_
 refine WL.n ?_
 refine Go.weaken (l' := [(0, t0), (1, t1)]) (Fr.c (Fr.c Fr.n)) ?_
 refine n1 ?_
 refine W.s (fun _ n2 _ q2 _ => ?_)
 refine W.s (fun _ n3 _ _ _ => ?_)
 refine W.r ?_
 refine WL.a (some 6) t0 h ?_
 replace z := oS z; obtain ⟨t7, e4, z⟩ := z
 refine WL.b (some 7) (.int .i64 t7) h (len_row (P := Pg) (h := h) (t := 24) (e' := 37) (by kernel_rfl) e4) ?_
 refine WL.a (some 8) t1 h ?_
 replace z := oS z; obtain ⟨t9, e5, z⟩ := z
 refine WL.b (some 9) (.int .i64 t9) h (len_row (P := Pg) (h := h) (t := 24) (e' := 37) (by kernel_rfl) e5) ?_
 replace z := lS z; obtain ⟨t10, e6, z⟩ := z
 refine WL.val (d := (some 10)) (v := .bool t10) (h' := h) (by kernel_rfl) (by kernel_rfl) (val_of AV.bool e6 (by kernel_rfl)) ?_
 refine WL.n ?_
 refine Go.weaken (l' := [(0, t0), (1, t1), (10, .bool t10)]) (Fr.c (Fr.c (Fr.c Fr.n))) ?_
 refine n3 ?_
 cases t10 with
 | true =>
  replace z := ifB_t z
  refine W.t ?_
  refine W.s (fun _ n7 _ _ _ => ?_)
  refine W.r ?_
  refine WL.a (some 4) (.bool false) h ?_
  refine WL.n ?_
  refine Go.weaken (l' := [(4, .bool false)]) (Fr.c Fr.n) ?_
  refine n7 ?_
  refine W.ret (by kernel_rfl) ?_
  refine q2 ?_
  obtain ⟨z, hF2⟩ := ret_inj z; subst z; subst hF2
  exact leave_of (rs := [.tmp 4]) (vs := [.bool false]) (by kernel_rfl) (res_tmp (by kernel_rfl) res_nil) (by kernel_rfl)
 | false =>
  replace z := ifB_f z
  refine W.f ?_
  refine W.skip (by kernel_rfl) ?_
  refine n2 ?_
  refine W.s (fun K8 n8 _ q8 _ => ?_)
  refine W.s (fun _ n9 _ _ _ => ?_)
  refine W.r ?_
  refine WL.a (some 5) (.int .i64 0) h ?_
  refine WL.n ?_
  refine Go.weaken (l' := [(0, t0), (1, t1), (5, .int .i64 0)]) (Fr.c (Fr.c (Fr.c Fr.n))) ?_
  refine n9 ?_
  replace z := lS z; obtain ⟨k11, e11, z⟩ := z
  have J11 : ∀  (h_12 : AHeap), k11 h_12 = some (rR, hR) → Go w0 m0 (Func.ntmps Tryd.f10) (K8 .normal) [] [] h_12 := by
   intro  h_12 z
   rw [e11] at z
   refine n8 ?_
   refine W.s (fun _ n13 _ _ _ => ?_)
   refine W.r ?_
   refine WL.a (some 4) (.bool true) h_12 ?_
   refine WL.n ?_
   refine Go.weaken (l' := [(4, .bool true)]) (Fr.c Fr.n) ?_
   refine n13 ?_
   refine W.ret (by kernel_rfl) ?_
   obtain ⟨z, hF2⟩ := ret_inj z; subst z; subst hF2
   exact leave_of (rs := [.tmp 4]) (vs := [.bool true]) (by kernel_rfl) (res_tmp (by kernel_rfl) res_nil) (by kernel_rfl)
  refine W.blockK (by kernel_rfl) (fun K10 n10 s10 o10 q10 p10 => ?_)
  refine W.loopK (by kernel_rfl) (fun I14 K14 b14 n14 e14 q14 p14 => ?_)
  have L14 : ∀ (m : Nat) (t5 : Int) (h_15 : AHeap), ref12_Same_L0 t0 t1 k11 m t5 h_15 = some (rR, hR) → Go w0 m0 (Func.ntmps Tryd.f10) I14 [(0, t0), (1, t1), (5, .int .i64 t5)] [] h_15 := by
   intro m
   induction m with
   | zero => intro t5 h_15 z; cases z
   | succ m ih14 =>
    intro t5 h_15 z
    rw [ref12_Same_L0_s] at z; unfold ref12_Same_L0b at z
    refine b14 ?_
    refine W.s (fun _ n16 e16 _ _ => ?_)
    refine W.s (fun _ n17 _ _ _ => ?_)
    refine W.r ?_
    refine WL.a (some 11) (.int .i64 t5) h_15 ?_
    refine WL.a (some 12) t0 h_15 ?_
    replace z := oS z; obtain ⟨t13, e18, z⟩ := z
    refine WL.b (some 13) (.int .i64 t13) h_15 (len_row (P := Pg) (h := h_15) (t := 24) (e' := 37) (by kernel_rfl) e18) ?_
    replace z := lS z; obtain ⟨t14, e19, z⟩ := z
    refine WL.val (d := (some 14)) (v := .bool t14) (h' := h_15) (by kernel_rfl) (by kernel_rfl) (val_of AV.bool e19 (by kernel_rfl)) ?_
    refine WL.n ?_
    refine Go.weaken (l' := [(0, t0), (1, t1), (5, .int .i64 t5), (14, .bool t14)]) (Fr.c (Fr.c (Fr.c (Fr.c Fr.n)))) ?_
    refine n17 ?_
    cases t14 with
    | true =>
     replace z := ifB_t z
     refine W.t ?_
     refine W.skip (by kernel_rfl) ?_
     refine n16 ?_
     refine W.s (fun _ n20 _ q20 _ => ?_)
     refine W.blockK (by kernel_rfl) (fun K21 n21 s21 o21 q21 p21 => ?_)
     refine W.s (fun K22 n22 _ _ _ => ?_)
     replace z := lS z; obtain ⟨k23, e23, z⟩ := z
     have J23 : ∀ (t53 : Bool) (h_24 : AHeap), k23 t53 h_24 = some (rR, hR) → Go w0 m0 (Func.ntmps Tryd.f10) (K22 .normal) [(0, t0), (1, t1), (5, .int .i64 t5), (53, .bool t53)] [] h_24 := by
      intro t53 h_24 z
      rw [e23] at z
      refine n22 ?_
      cases t53 with
      | true =>
       replace z := ifB_t z
       refine W.t ?_
       refine W.s (fun _ n25 _ _ _ => ?_)
       refine W.r ?_
       refine WL.a (some 4) (.bool false) h_24 ?_
       refine WL.n ?_
       refine Go.weaken (l' := [(4, .bool false)]) (Fr.c Fr.n) ?_
       refine n25 ?_
       refine W.ret (by kernel_rfl) ?_
       refine q21 ?_
       refine q20 ?_
       refine q14 ?_
       refine q10 ?_
       refine q8 ?_
       obtain ⟨z, hF2⟩ := ret_inj z; subst z; subst hF2
       exact leave_of (rs := [.tmp 4]) (vs := [.bool false]) (by kernel_rfl) (res_tmp (by kernel_rfl) res_nil) (by kernel_rfl)
      | false =>
       replace z := ifB_f z
       refine W.f ?_
       refine W.skip (by kernel_rfl) ?_
       refine n21 ?_
       refine n20 ?_
       refine W.r ?_
       refine WL.a (some 15) (.int .i64 t5) h_24 ?_
       replace z := lS z; obtain ⟨t16, e26, z⟩ := z
       refine WL.val (d := (some 16)) (v := .int .i64 t16) (h' := h_24) (by kernel_rfl) (by kernel_rfl) (val_of (AV.int .i64) e26 (by kernel_rfl)) ?_
       refine WL.a (some 5) (.int .i64 t16) h_24 ?_
       refine WL.n ?_
       refine Go.weaken (l' := [(0, t0), (1, t1), (5, .int .i64 t16)]) (Fr.c (Fr.c (Fr.c Fr.n))) ?_
       refine n14 ?_
       exact Go.weaken (Fr.c (Fr.c (Fr.c Fr.n))) (ih14 _ _ z)
     refine W.draw (by kernel_rfl) (hc.ok w0) (plan := [0, 1, 2, 3, 4, 5, 6, 7, 8, 9, 10, 11, 12, 13, 14, 15, 16, 17, 18, 19, 20, 21, 22, 23, 24, 25, 26, 27, 28, 29, 30, 31, 32, 33, 34, 35, 36]) (by kernel_rfl) (by kernel_rfl) (by kernel_rfl) ?_
     refine WD.a 0 (some 17) t0 h_15 ?_
     refine WD.a 0 (some 18) (.int .i64 t5) h_15 ?_
     replace z := oS z; obtain ⟨t19, e27, z⟩ := z
     refine WD.b 0 (some 19) t19 h_15 (index_row (P := Pg) (h := h_15) (t := 24) (e' := 37) (k := .i64) (by kernel_rfl) (by kernel_rfl) (by kernel_rfl) e27) ?_
     replace z := oS z; obtain ⟨t20, e28, z⟩ := z
     refine WD.b 0 (some 20) t20 h_15 (field_ptr (P := Pg) (h := h_15) (s := 37) (f := 0) (by kernel_rfl) e28) ?_
     replace z := oS z; obtain ⟨v21, e29, z⟩ := z
     replace z := oS z; obtain ⟨t21, c30, z⟩ := z
     have c30 := avInt_some c30
     subst c30
     refine WD.b 1 (some 21) (.int .i64 t21) h_15 (load_cell (P := Pg) (h := h_15) (t := 3) (by kernel_rfl) e29) ?_
     refine WD.a 0 (some 22) t1 h_15 ?_
     refine WD.a 0 (some 23) (.int .i64 t5) h_15 ?_
     replace z := oS z; obtain ⟨t24, e31, z⟩ := z
     refine WD.b 0 (some 24) t24 h_15 (index_row (P := Pg) (h := h_15) (t := 24) (e' := 37) (k := .i64) (by kernel_rfl) (by kernel_rfl) (by kernel_rfl) e31) ?_
     replace z := oS z; obtain ⟨t25, e32, z⟩ := z
     refine WD.b 0 (some 25) t25 h_15 (field_ptr (P := Pg) (h := h_15) (s := 37) (f := 0) (by kernel_rfl) e32) ?_
     replace z := oS z; obtain ⟨v26, e33, z⟩ := z
     replace z := oS z; obtain ⟨t26, c34, z⟩ := z
     have c34 := avInt_some c34
     subst c34
     refine WD.b 1 (some 26) (.int .i64 t26) h_15 (load_cell (P := Pg) (h := h_15) (t := 3) (by kernel_rfl) e33) ?_
     replace z := lS z; obtain ⟨t27, e35, z⟩ := z
     refine WD.val (d := (some 27)) (v := .bool t27) (h' := h_15) (by kernel_rfl) (by kernel_rfl) (val_of AV.bool e35 (by kernel_rfl)) (k := 0) (by kernel_rfl) (fun e => absurd e (by decide)) (by decide) ?_
     refine WD.a 0 (some 28) (.bool t27) h_15 ?_
     cases t27 with
     | true =>
      replace z := ifB_t z
      refine WD.not (d := (some 29)) (by kernel_rfl) (by kernel_rfl) (k := 0) (by kernel_rfl) (fun e => absurd e (by decide)) (by decide) ?_
      refine WD.not (d := (some 30)) (by kernel_rfl) (by kernel_rfl) (k := 0) (by kernel_rfl) (fun e => absurd e (by decide)) (by decide) ?_
      refine WD.not (d := (some 31)) (by kernel_rfl) (by kernel_rfl) (k := 0) (by kernel_rfl) (fun e => absurd e (by decide)) (by decide) ?_
      refine WD.not (d := (some 32)) (by kernel_rfl) (by kernel_rfl) (k := 0) (by kernel_rfl) (fun e => absurd e (by decide)) (by decide) ?_
      refine WD.not (d := (some 33)) (by kernel_rfl) (by kernel_rfl) (k := 1) (by kernel_rfl) (fun e => absurd e (by decide)) (by decide) ?_
      refine WD.not (d := (some 34)) (by kernel_rfl) (by kernel_rfl) (k := 0) (by kernel_rfl) (fun e => absurd e (by decide)) (by decide) ?_
      refine WD.not (d := (some 35)) (by kernel_rfl) (by kernel_rfl) (k := 0) (by kernel_rfl) (fun e => absurd e (by decide)) (by decide) ?_
      refine WD.not (d := (some 36)) (by kernel_rfl) (by kernel_rfl) (k := 0) (by kernel_rfl) (fun e => absurd e (by decide)) (by decide) ?_
      refine WD.not (d := (some 37)) (by kernel_rfl) (by kernel_rfl) (k := 0) (by kernel_rfl) (fun e => absurd e (by decide)) (by decide) ?_
      refine WD.not (d := (some 38)) (by kernel_rfl) (by kernel_rfl) (k := 1) (by kernel_rfl) (fun e => absurd e (by decide)) (by decide) ?_
      refine WD.not (d := (some 39)) (by kernel_rfl) (by kernel_rfl) (k := 0) (by kernel_rfl) (fun e => absurd e (by decide)) (by decide) ?_
      refine WD.a 0 (some 40) (.bool true) h_15 ?_
      refine WD.a 0 (some 41) (.bool true) h_15 ?_
      refine WD.not (d := (some 42)) (by kernel_rfl) (by kernel_rfl) (k := 0) (by kernel_rfl) (fun e => absurd e (by decide)) (by decide) ?_
      refine WD.not (d := (some 43)) (by kernel_rfl) (by kernel_rfl) (k := 0) (by kernel_rfl) (fun e => absurd e (by decide)) (by decide) ?_
      refine WD.not (d := (some 44)) (by kernel_rfl) (by kernel_rfl) (k := 0) (by kernel_rfl) (fun e => absurd e (by decide)) (by decide) ?_
      refine WD.not (d := (some 45)) (by kernel_rfl) (by kernel_rfl) (k := 0) (by kernel_rfl) (fun e => absurd e (by decide)) (by decide) ?_
      refine WD.not (d := (some 46)) (by kernel_rfl) (by kernel_rfl) (k := 1) (by kernel_rfl) (fun e => absurd e (by decide)) (by decide) ?_
      refine WD.not (d := (some 47)) (by kernel_rfl) (by kernel_rfl) (k := 0) (by kernel_rfl) (fun e => absurd e (by decide)) (by decide) ?_
      refine WD.not (d := (some 48)) (by kernel_rfl) (by kernel_rfl) (k := 0) (by kernel_rfl) (fun e => absurd e (by decide)) (by decide) ?_
      refine WD.not (d := (some 49)) (by kernel_rfl) (by kernel_rfl) (k := 0) (by kernel_rfl) (fun e => absurd e (by decide)) (by decide) ?_
      refine WD.not (d := (some 50)) (by kernel_rfl) (by kernel_rfl) (k := 0) (by kernel_rfl) (fun e => absurd e (by decide)) (by decide) ?_
      refine WD.not (d := (some 51)) (by kernel_rfl) (by kernel_rfl) (k := 1) (by kernel_rfl) (fun e => absurd e (by decide)) (by decide) ?_
      refine WD.not (d := (some 52)) (by kernel_rfl) (by kernel_rfl) (k := 0) (by kernel_rfl) (fun e => absurd e (by decide)) (by decide) ?_
      refine WD.a 0 (some 53) (.bool true) h_15 ?_
      refine WD.nil ?_
      exact Go.weaken (Fr.c (Fr.c (Fr.c (Fr.c Fr.n)))) (J23 _ _ z)
     | false =>
      replace z := ifB_f z
      refine WD.a 0 (some 29) t0 h_15 ?_
      refine WD.a 0 (some 30) (.int .i64 t5) h_15 ?_
      replace z := oS z; obtain ⟨t31, e36, z⟩ := z
      refine WD.b 0 (some 31) t31 h_15 (index_row (P := Pg) (h := h_15) (t := 24) (e' := 37) (k := .i64) (by kernel_rfl) (by kernel_rfl) (by kernel_rfl) e36) ?_
      replace z := oS z; obtain ⟨t32, e37, z⟩ := z
      refine WD.b 0 (some 32) t32 h_15 (field_ptr (P := Pg) (h := h_15) (s := 37) (f := 1) (by kernel_rfl) e37) ?_
      replace z := oS z; obtain ⟨v33, e38, z⟩ := z
      replace z := oS z; obtain ⟨t33, c39, z⟩ := z
      have c39 := avStr_some c39
      subst c39
      refine WD.b 1 (some 33) (strA t33) h_15 (load_cell (P := Pg) (h := h_15) (t := 9) (by kernel_rfl) e38) ?_
      refine WD.a 0 (some 34) t1 h_15 ?_
      refine WD.a 0 (some 35) (.int .i64 t5) h_15 ?_
      replace z := oS z; obtain ⟨t36, e40, z⟩ := z
      refine WD.b 0 (some 36) t36 h_15 (index_row (P := Pg) (h := h_15) (t := 24) (e' := 37) (k := .i64) (by kernel_rfl) (by kernel_rfl) (by kernel_rfl) e40) ?_
      replace z := oS z; obtain ⟨t37, e41, z⟩ := z
      refine WD.b 0 (some 37) t37 h_15 (field_ptr (P := Pg) (h := h_15) (s := 37) (f := 1) (by kernel_rfl) e41) ?_
      replace z := oS z; obtain ⟨v38, e42, z⟩ := z
      replace z := oS z; obtain ⟨t38, c43, z⟩ := z
      have c43 := avStr_some c43
      subst c43
      refine WD.b 1 (some 38) (strA t38) h_15 (load_cell (P := Pg) (h := h_15) (t := 9) (by kernel_rfl) e42) ?_
      replace z := lS z; obtain ⟨t39, e44, z⟩ := z
      refine WD.val (d := (some 39)) (v := .bool t39) (h' := h_15) (by kernel_rfl) (by kernel_rfl) (val_of AV.bool e44 (by kernel_rfl)) (k := 0) (by kernel_rfl) (fun e => absurd e (by decide)) (by decide) ?_
      refine WD.a 0 (some 40) (.bool t39) h_15 ?_
      refine WD.a 0 (some 41) (.bool t39) h_15 ?_
      cases t39 with
      | true =>
       replace z := ifB_t z
       refine WD.not (d := (some 42)) (by kernel_rfl) (by kernel_rfl) (k := 0) (by kernel_rfl) (fun e => absurd e (by decide)) (by decide) ?_
       refine WD.not (d := (some 43)) (by kernel_rfl) (by kernel_rfl) (k := 0) (by kernel_rfl) (fun e => absurd e (by decide)) (by decide) ?_
       refine WD.not (d := (some 44)) (by kernel_rfl) (by kernel_rfl) (k := 0) (by kernel_rfl) (fun e => absurd e (by decide)) (by decide) ?_
       refine WD.not (d := (some 45)) (by kernel_rfl) (by kernel_rfl) (k := 0) (by kernel_rfl) (fun e => absurd e (by decide)) (by decide) ?_
       refine WD.not (d := (some 46)) (by kernel_rfl) (by kernel_rfl) (k := 1) (by kernel_rfl) (fun e => absurd e (by decide)) (by decide) ?_
       refine WD.not (d := (some 47)) (by kernel_rfl) (by kernel_rfl) (k := 0) (by kernel_rfl) (fun e => absurd e (by decide)) (by decide) ?_
       refine WD.not (d := (some 48)) (by kernel_rfl) (by kernel_rfl) (k := 0) (by kernel_rfl) (fun e => absurd e (by decide)) (by decide) ?_
       refine WD.not (d := (some 49)) (by kernel_rfl) (by kernel_rfl) (k := 0) (by kernel_rfl) (fun e => absurd e (by decide)) (by decide) ?_
       refine WD.not (d := (some 50)) (by kernel_rfl) (by kernel_rfl) (k := 0) (by kernel_rfl) (fun e => absurd e (by decide)) (by decide) ?_
       refine WD.not (d := (some 51)) (by kernel_rfl) (by kernel_rfl) (k := 1) (by kernel_rfl) (fun e => absurd e (by decide)) (by decide) ?_
       refine WD.not (d := (some 52)) (by kernel_rfl) (by kernel_rfl) (k := 0) (by kernel_rfl) (fun e => absurd e (by decide)) (by decide) ?_
       refine WD.a 0 (some 53) (.bool true) h_15 ?_
       refine WD.nil ?_
       exact Go.weaken (Fr.c (Fr.c (Fr.c (Fr.c Fr.n)))) (J23 _ _ z)
      | false =>
       replace z := ifB_f z
       refine WD.a 0 (some 42) t0 h_15 ?_
       refine WD.a 0 (some 43) (.int .i64 t5) h_15 ?_
       replace z := oS z; obtain ⟨t44, e45, z⟩ := z
       refine WD.b 0 (some 44) t44 h_15 (index_row (P := Pg) (h := h_15) (t := 24) (e' := 37) (k := .i64) (by kernel_rfl) (by kernel_rfl) (by kernel_rfl) e45) ?_
       replace z := oS z; obtain ⟨t45, e46, z⟩ := z
       refine WD.b 0 (some 45) t45 h_15 (field_ptr (P := Pg) (h := h_15) (s := 37) (f := 2) (by kernel_rfl) e46) ?_
       replace z := oS z; obtain ⟨v46, e47, z⟩ := z
       replace z := oS z; obtain ⟨t46, c48, z⟩ := z
       have c48 := avInt_some c48
       subst c48
       refine WD.b 1 (some 46) (.int .i64 t46) h_15 (load_cell (P := Pg) (h := h_15) (t := 3) (by kernel_rfl) e47) ?_
       refine WD.a 0 (some 47) t1 h_15 ?_
       refine WD.a 0 (some 48) (.int .i64 t5) h_15 ?_
       replace z := oS z; obtain ⟨t49, e49, z⟩ := z
       refine WD.b 0 (some 49) t49 h_15 (index_row (P := Pg) (h := h_15) (t := 24) (e' := 37) (k := .i64) (by kernel_rfl) (by kernel_rfl) (by kernel_rfl) e49) ?_
       replace z := oS z; obtain ⟨t50, e50, z⟩ := z
       refine WD.b 0 (some 50) t50 h_15 (field_ptr (P := Pg) (h := h_15) (s := 37) (f := 2) (by kernel_rfl) e50) ?_
       replace z := oS z; obtain ⟨v51, e51, z⟩ := z
       replace z := oS z; obtain ⟨t51, c52, z⟩ := z
       have c52 := avInt_some c52
       subst c52
       refine WD.b 1 (some 51) (.int .i64 t51) h_15 (load_cell (P := Pg) (h := h_15) (t := 3) (by kernel_rfl) e51) ?_
       replace z := lS z; obtain ⟨t52, e53, z⟩ := z
       refine WD.val (d := (some 52)) (v := .bool t52) (h' := h_15) (by kernel_rfl) (by kernel_rfl) (val_of AV.bool e53 (by kernel_rfl)) (k := 0) (by kernel_rfl) (fun e => absurd e (by decide)) (by decide) ?_
       refine WD.a 0 (some 53) (.bool t52) h_15 ?_
       refine WD.nil ?_
       exact Go.weaken (Fr.c (Fr.c (Fr.c (Fr.c Fr.n)))) (J23 _ _ z)
    | false =>
     replace z := ifB_f z
     refine W.f ?_
     refine W.exit (by kernel_rfl) ?_
     refine e16 ?_
     refine e14 ?_
     refine s10 (by kernel_rfl) ?_
     exact Go.weaken Fr.n (J11 _ z)
  exact Go.weaken (Fr.c (Fr.c (Fr.c Fr.n))) (L14 _ _ _ z)
noncomputable def ref12_Same_fn (call : CallF) (n : Nat) : FnT := fun args h => match args with
 | [x0, x1] => ref12_Same call n x0 x1 h
 | _ => none
set_option maxRecDepth 100000 in
theorem ref12_Same_fn_eq (call : CallF) (n : Nat) (t0 : AV) (t1 : AV) (h : AHeap) : ref12_Same_fn call n [t0, t1] h = ref12_Same call n t0 t1 h :=
 rfl
theorem ref12_Same_holds {call : CallF} (hc : SaysAll Pg call) (n : Nat) : Holds Pg 10 (ref12_Same_fn call n) := by
 intro args h r h2 e
 unfold ref12_Same_fn at e
 split at e
 ·exact ref12_Same_ok hc e
 ·cases e
noncomputable def orC (a b : CallF) : CallF := fun f args h => match a f args h with
 | some r => some r
 | none => b f args h
theorem orC_ok {P : Program} {a b : CallF} (ha : SaysAll P a) (hb : SaysAll P b) : SaysAll P (orC a b) := by
 intro f args h r h' e
 unfold orC at e
 split at e
 ·rename_i r' e2
  cases e
  exact ha _ _ _ _ _ e2
 ·exact hb _ _ _ _ _ e
theorem take_tail {t : T AV} {o n : Nat} {x : AV} {xs : List AV} (h : t.take o (n + 1) = some (x :: xs)) : t.take (o + 1) n = some xs := by
 unfold T.take at h
 cases e1 : t.get o with
 | none => rw [e1] at h; cases h
 | some y =>
  rw [e1] at h
  cases e2 : t.take (o + 1) n with
  | none => rw [e2] at h; cases h
  | some ys =>
   rw [e2] at h
   cases h
   rfl
theorem row_tail {H : AHeap} {b o n : Nat} {x : AV} {xs : List AV} (h : ldRow H (n + 1) (.ptr b o) = some (x :: xs)) : ldRow H n (.ptr b (o + 1)) = some xs := by
 simp only [ldRow, rowGet] at h ⊢
 split at h
 ·exact take_tail h
 ·exact take_tail h
 ·exact take_tail h
 ·cases h
def TokOk (x : Tk) : Prop := (x.k = 3 → ∃ y : Nat, x.m = y ∧ y < 10000) ∧ x.t.length ≤ 100000
section
variable {n d p q a b c N i : Nat} {h h0 H : AHeap} {u : Bytes} {Q : ARes → AHeap → Prop} {v v1 v2 : AV} {S : List Nat} {ys T : List RowT} {s : Bool} {ts ts' full : List Tk}
theorem tk_cells (hs : Slc H.next H 4 v (full.map Tk.c)) {i : Nat} (hi : i < full.length) : ∃ b, idxP 4 v (i : Int) = some (.ptr b (i * 4)) ∧ ldRow H 4 (.ptr b (i * 4)) = some (tokC full[i].k full[i].t full[i].m full[i].a) ∧
  ldCell H (.ptr b (i * 4 + 0)) = some (.int .i64 full[i].k) ∧ ldCell H (.ptr b (i * 4 + 1)) = some (strA full[i].t) ∧ ldCell H (.ptr b (i * 4 + 2)) = some (.int .i64 full[i].m) := by
 obtain ⟨b, _, x1, r1⟩ := hs.row (i := i) (by simpa using hi)
 rw [List.getElem_map] at r1
 have r2 : ldRow H 4 (.ptr b (i * 4)) = some (tokC full[i].k full[i].t full[i].m full[i].a) := r1
 have r3 := r2
 unfold tokC at r3
 exact ⟨b, x1, r2, row_head r3, row_head (row_tail r3), row_head (row_tail (row_tail r3))⟩
end
theorem SameT.len : ∀ {ts ts' : List Tk}, SameT ts ts' → ts.length = ts'.length
 | [], [], _ => rfl
 | [], _ :: _, h => h.elim
 | _ :: _, [], h => h.elim
 | _ :: l, _ :: r, ⟨_, _, _, h⟩ => by
  rw [List.length_cons, List.length_cons, SameT.len h]
theorem SameT.at : ∀ {ts ts' : List Tk} (_ : SameT ts ts') (i : Nat) (h1 : i < ts.length) (h2 : i < ts'.length), ts[i].k = ts'[i].k ∧ ts[i].t = ts'[i].t ∧ ts[i].m = ts'[i].m
 | [], [], _, i, h1, _ => by simp at h1
 | [], _ :: _, h, _, _, _ => h.elim
 | _ :: _, [], h, _, _, _ => h.elim
 | x :: l, y :: r, ⟨a1, a2, a3, h⟩, i, h1, h2 => by
  cases i with
  | zero => exact ⟨a1, a2, a3⟩
  | succ i => exact SameT.at h i (by simpa using h1) (by simpa using h2)
theorem places_ok {u : Bytes} {s : Bool} {p : Nat} {ts : List Tk} (hu : u.length ≤ 2048) (h : PlacesT u s p ts) : ∀ x ∈ ts, TokOk x := by
 induction h with
 | nil => simp
 | @tok s p q' x rest g hq ht r ih =>
  intro y hy
  rcases List.mem_cons.1 hy with rfl | hy
  ·obtain ⟨_, _, _, _, _, _, h3, _, _, h4⟩ := token_word hq ht
   exact ⟨h3, by omega⟩
  ·exact ih y hy
 | @eol p q rest g hq he r ih =>
  intro y hy
  rcases List.mem_cons.1 hy with rfl | hy
  ·exact ⟨(fun hh => by simp at hh), by simp⟩
  ·exact ih y hy
section
variable {n d p q a b c N i : Nat} {h h0 H : AHeap} {u : Bytes} {Q : ARes → AHeap → Prop} {v v1 v2 : AV} {S : List Nat} {ys T : List RowT} {s : Bool} {ts ts' full : List Tk}
theorem same_loop {k11 : AHeap → R} (s1 : Slc H.next H 4 v1 (ts.map Tk.c)) (s2 : Slc H.next H 4 v2 (ts'.map Tk.c)) (hS : SameT ts ts') (hl : ts.length ≤ 1000000) (hk : Wp (k11 H) Q) :
  ∀ (f i : Nat), ts.length < f + i → i ≤ ts.length → Wp (ref12_Same_L0 v1 v2 k11 f (i : Int) H) Q
 | 0, i, hf, hi => by omega
 | f + 1, i, hf, hi => by
  rw [ref12_Same_L0_s]
  unfold ref12_Same_L0b
  have hle := s1.len
  simp only [List.length_map] at hle
  by_cases hlt : i < ts.length
  ·have hlt2 : i < ts'.length := by rw [← hS.len]; exact hlt
   obtain ⟨b1, x1, _, r1, r2, r3⟩ := tk_cells s1 hlt
   obtain ⟨b2, x2, _, q1, q2, q3⟩ := tk_cells s2 hlt2
   obtain ⟨a1, a2, a3⟩ := hS.at i hlt hlt2
   rw [← a1] at q1
   rw [← a2] at q2
   rw [← a3] at q3
   have es : eqS ts[i].t ts[i].t = true := eqS_true.2 rfl
   repeat (first | (rw [es]) | (with_reducible refine Wp.join1 (fun _ _ => ?_)) | ((with_reducible refine Wp.lettw ?_ ?_ ?_); omega; omega) | (with_reducible refine Wp.lett ?_) | ((with_reducible apply Wp.obind); (with_reducible first | exact hle | exact x1 | exact x2 | exact r1 | exact r2 | exact r3 | exact q1 | exact q2 | exact q3 | exact avInt_int _ _ | exact avStr_str _ | exact fldP_ptr _ _ _)) | ((with_reducible refine Wp.ift ?_ ?_); ((with_reducible first | apply decide_eq_true | apply bne_t); omega)) | ((with_reducible refine Wp.iff ?_ ?_); first | (with_reducible exact Bool.not_true) | ((with_reducible apply bne_f); omega)) | (with_reducible refine Wp.go1 (by assumption) ?_))
   rw [show (i : Int) + 1 = ((i + 1 : Nat) : Int) by omega]
   exact same_loop s1 s2 hS hl hk f (i + 1) (by omega) (by omega)
  ·repeat (first | (with_reducible refine Wp.lett ?_) | ((with_reducible apply Wp.obind); (with_reducible exact hle)) | ((with_reducible refine Wp.iff ?_ ?_); ((with_reducible apply decide_eq_false); omega)))
   exact hk
theorem same_p (s1 : Slc H.next H 4 v1 (ts.map Tk.c)) (s2 : Slc H.next H 4 v2 (ts'.map Tk.c)) (hS : SameT ts ts') (hl : ts.length ≤ 100000) (hn : 200000 < n) : ref12_Same (world n d) n v1 v2 H = some (.ret (.bool true), H) := by
 refine Wp.eq ?_
 unfold ref12_Same
 have l1 := s1.len
 have l2 := s2.len
 have hlen := hS.len
 simp only [List.length_map] at l1 l2
 rw [← hlen] at l2
 repeat (first | (with_reducible refine Wp.join0 (fun _ _ => ?_)) | (with_reducible refine Wp.lett ?_) | ((with_reducible apply Wp.obind); (with_reducible first | exact l1 | exact l2)) | ((with_reducible refine Wp.iff ?_ ?_); ((with_reducible apply bne_f); omega)))
 refine same_loop s1 s2 hS (by omega) ?_ n 0 (by omega) (by omega)
 repeat ((with_reducible refine Wp.go0 (by assumption) ?_))
 exact Wp.ret ⟨rfl, rfl⟩
end
theorem flatSpot : flatB Tryd.prog TSpot [1, 1] = true := by kernel_rfl
theorem eqSpot_zero : eqOther Tryd.prog TSpot (.agg [.int .i64 0, .int .i64 0]) (.agg [.int .i64 0, .int .i64 0]) = some true := eq_flat flatSpot (eqL_cons rfl (eqCell_int _ _ _) (eqL_cons rfl (eqCell_int _ _ _) rfl))
mutual
inductive BL : Bytes → Prop
 | nil : BL []
 | blank {c w} (h : blankB (UInt8.toNat c) = true) (k : BL w) : BL (c :: w)
 | remark {w} (k : BLr w) : BL (35 :: w)
 | nl {w} (k : BL w) : BL (10 :: w)
inductive BLr : Bytes → Prop
 | nil : BLr []
 | any {c w} (h : restB (UInt8.toNat c) = true) (k : BLr w) : BLr (c :: w)
 | nl {w} (k : BL w) : BLr (10 :: w)
end
def remB : Bytes := [32, 35, 32, 97, 32, 34, 114, 101, 109, 97, 114, 107, 32, 123]
def linB : Bytes := [32, 10, 9, 35, 32, 110, 111, 116, 104, 105, 110, 103, 10]
def Pad (e : Bool) (m : Bytes) : Prop := ∃ ps : List Bytes, m = ps.flatten ∧ ∀ p ∈ ps, p = [32] ∨ p = [9] ∨ (e = true ∧ (p = remB ∨ p = linB))
theorem Pad.nil (e : Bool) : Pad e [] := ⟨[], rfl, by simp⟩
theorem Pad.more {e : Bool} {m p : Bytes} (h : Pad e m) (hp : p = [32] ∨ p = [9] ∨ (e = true ∧ (p = remB ∨ p = linB))) : Pad e (m ++ p) := by
 obtain ⟨ps, rfl, h2⟩ := h
 refine ⟨ps ++ [p], by simp, fun q hq => ?_⟩
 rcases List.mem_append.1 hq with hq | hq
 ·exact h2 q hq
 ·have : q = p := by simpa using hq
  subst this
  exact hp
theorem pad_bl : ∀ ps : List Bytes, (∀ p ∈ ps, p = [32] ∨ p = [9] ∨ (p = remB ∨ p = linB)) → BL ps.flatten ∧ BLr ps.flatten
 | [], _ => ⟨.nil, .nil⟩
 | p :: ps, h => by
  obtain ⟨h1, h2⟩ := pad_bl ps (fun q hq => h q (List.mem_cons_of_mem _ hq))
  rw [List.flatten_cons]
  rcases h p (List.mem_cons_self ..) with rfl | rfl | rfl | rfl
  ·exact ⟨.blank rfl h1, .any rfl h2⟩
  ·exact ⟨.blank rfl h1, .any rfl h2⟩
  ·have k : ∀ w, BLr w → BLr ([32, 97, 32, 34, 114, 101, 109, 97, 114, 107, 32, 123] ++ w) := fun w k => .any rfl (.any rfl (.any rfl (.any rfl (.any rfl (.any rfl (.any rfl (.any rfl (.any rfl (.any rfl (.any rfl (.any rfl k)))))))))))
   exact ⟨.blank rfl (.remark (k _ h2)), .any rfl (.any rfl (k _ h2))⟩
  ·have k : ∀ w, BL w → BLr ([32, 110, 111, 116, 104, 105, 110, 103, 10] ++ w) := fun w k => .any rfl (.any rfl (.any rfl (.any rfl (.any rfl (.any rfl (.any rfl (.any rfl (.nl k))))))))
   exact ⟨.blank rfl (.nl (.blank rfl (.remark (k _ h1)))), .any rfl (.nl (.blank rfl (.remark (k _ h1))))⟩
theorem pad_blanks {m : Bytes} (h : Pad false m) : ∀ c ∈ m, blankB (UInt8.toNat c) = true := by
 obtain ⟨ps, rfl, h⟩ := h
 intro c hc
 obtain ⟨p, hp, hcp⟩ := List.mem_flatten.1 hc
 rcases h p hp with rfl | rfl | ⟨h, _⟩
 ·have : c = 32 := by simpa using hcp
  subst this
  rfl
 ·have : c = 9 := by simpa using hcp
  subst this
  rfl
 ·cases h
theorem pad_head {e : Bool} {m : Bytes} (h : Pad e m) : Stop m := by
 obtain ⟨ps, rfl, h⟩ := h
 cases ps with
 | nil => trivial
 | cons p ps =>
  rcases h p (List.mem_cons_self ..) with rfl | rfl | ⟨_, rfl | rfl⟩
  ·exact .inl rfl
  ·exact .inr (.inl rfl)
  ·exact .inl rfl
  ·exact .inl rfl
theorem stop_app {m r : Bytes} (h : Stop m) (hr : Stop r) : Stop (m ++ r) := by
 cases m with
 | nil => exact hr
 | cons c w => exact h
theorem no_nl : ∀ {a r : Bytes}, (∀ c ∈ a, restB (UInt8.toNat c) = true) → spanN restB (a ++ 10 :: r) = a.length
 | [], r, _ => rfl
 | c :: a, r, h => by
  show spanN restB (c :: (a ++ 10 :: r)) = a.length + 1
  unfold spanN
  rw [if_pos (h c (List.mem_cons_self ..)), no_nl (fun x hx => h x (List.mem_cons_of_mem _ hx))]
theorem blr_split : ∀ {w : Bytes}, BLr w → (∃ a v, w = a ++ 10 :: v ∧ (∀ c ∈ a, restB (UInt8.toNat c) = true) ∧ BL v) ∨ (∀ c ∈ w, restB (UInt8.toNat c) = true)
 | [], _ => .inr (by simp)
 | c :: w, h => by
  cases h with
  | any h k =>
   rcases blr_split k with ⟨a, v, rfl, h2, h3⟩ | h2
   ·exact .inl ⟨c :: a, v, rfl, fun x hx => by rcases List.mem_cons.1 hx with rfl | hx; exact h; exact h2 x hx, h3⟩
   ·exact .inr (fun x hx => by rcases List.mem_cons.1 hx with rfl | hx; exact h; exact h2 x hx)
  | nl k => exact .inl ⟨[], w, rfl, by simp, k⟩
section
variable {u pre T : Bytes} {p q : Nat} {s : Bool} {l : List (List AV)} {ts ts' : List Tk} {R : LR}
theorem get_pre {c : UInt8} {w : Bytes} : ∃ h : pre.length < (pre ++ c :: w).length, ((pre ++ c :: w)[pre.length]'h) = c := ⟨by simp, by simp⟩
theorem nl_step (h : RefTo (pre ++ 10 :: T) (pre ++ [10]).length false (if s = true then l ++ [tokC 6 [] 0 pre.length] else l) R) : RefTo (pre ++ 10 :: T) pre.length s l R := by
 refine RefTo.nl (by simp) ?_ (by simpa using h)
 unfold endsB
 rw [at?_lt (by simp)]
 simp
theorem bl_to : ∀ (k : Nat) (w : Bytes), w.length < k → BL w → ∀ (pre : Bytes) (s : Bool) (l : List (List AV)), ∃ q, ∀ R, RefTo (pre ++ (w ++ 10 :: T)) (pre ++ (w ++ [10])).length false (if s = true then l ++ [tokC 6 [] 0 q] else l) R → RefTo (pre ++ (w ++ 10 :: T)) pre.length s l R
  | 0, w, hk, _, _, _, _ => by omega
  | k + 1, _, hk, hbl, pre, s, l => by
   cases hbl with
   | nil => exact ⟨pre.length, fun R h => nl_step h⟩
   | @blank c w hc hw =>
    obtain ⟨q, h⟩ := bl_to k w (by simp at hk; omega) hw (pre ++ [c]) s l
    refine ⟨q, fun R hR => ?_⟩
    obtain ⟨g1, g2⟩ := get_pre (pre := pre) (c := c) (w := w ++ 10 :: T)
    refine RefTo.blank (p := pre.length) g1 (show blankB (UInt8.toNat ((pre ++ c :: (w ++ 10 :: T))[pre.length]'g1)) = true by rw [g2]; exact hc) ?_
    have := h R (by simpa using hR)
    simpa using this
   | @nl w hw =>
    obtain ⟨q, h⟩ := bl_to k w (by simp at hk; omega) hw (pre ++ [10]) false (if s = true then l ++ [tokC 6 [] 0 pre.length] else l)
    refine ⟨pre.length, fun R hR => ?_⟩
    refine nl_step ?_
    have := h R (by simpa using hR)
    simpa using this
   | @remark w hw =>
    rcases blr_split hw with ⟨a, v, rfl, h2, h3⟩ | h2
    · obtain ⟨q, h⟩ := bl_to k v (by simp at hk; omega) h3 (pre ++ (35 :: a) ++ [10]) false (if s = true then l ++ [tokC 6 [] 0 (pre ++ (35 :: a)).length] else l)
      refine ⟨(pre ++ (35 :: a)).length, fun R hR => ?_⟩
      obtain ⟨g1, g2⟩ := get_pre (pre := pre) (c := 35) (w := (a ++ 10 :: v) ++ 10 :: T)
      refine RefTo.remark (p := pre.length) g1 (show UInt8.toNat ((pre ++ 35 :: ((a ++ 10 :: v) ++ 10 :: T))[pre.length]'g1) = 35 by rw [g2]; rfl) ?_
      have e1 : (pre ++ (35 :: (a ++ 10 :: v) ++ 10 :: T)).drop pre.length = (35 :: a) ++ 10 :: (v ++ 10 :: T) := by simp
      rw [e1, no_nl (a := 35 :: a) (fun x hx => by rcases List.mem_cons.1 hx with rfl | hx; rfl; exact h2 x hx)]
      have e2 : pre ++ (35 :: (a ++ 10 :: v) ++ 10 :: T) = (pre ++ (35 :: a)) ++ 10 :: (v ++ 10 :: T) := by simp
      rw [e2, ← List.length_append]
      refine nl_step ?_
      have := h R (by simpa using hR)
      simpa using this
    · refine ⟨(pre ++ (35 :: w)).length, fun R hR => ?_⟩
      obtain ⟨g1, g2⟩ := get_pre (pre := pre) (c := 35) (w := w ++ 10 :: T)
      refine RefTo.remark (p := pre.length) g1 (show UInt8.toNat ((pre ++ 35 :: (w ++ 10 :: T))[pre.length]'g1) = 35 by rw [g2]; rfl) ?_
      have e1 : (pre ++ (35 :: w ++ 10 :: T)).drop pre.length = (35 :: w) ++ 10 :: T := by simp
      rw [e1, no_nl (a := 35 :: w) (fun x hx => by rcases List.mem_cons.1 hx with rfl | hx; rfl; exact h2 x hx)]
      have e2 : pre ++ (35 :: w ++ 10 :: T) = (pre ++ (35 :: w)) ++ 10 :: T := by simp
      rw [e2, ← List.length_append]
      refine nl_step ?_
      simpa using hR
theorem blanks_on : ∀ (m : Bytes) (pre : Bytes), (∀ c ∈ m, blankB (UInt8.toNat c) = true) → RefTo (pre ++ (m ++ T)) (pre ++ m).length s l R → RefTo (pre ++ (m ++ T)) pre.length s l R
 | [], pre, _, h => by simpa using h
 | c :: m, pre, hm, h => by
  obtain ⟨g1, g2⟩ := get_pre (pre := pre) (c := c) (w := m ++ T)
  refine RefTo.blank (p := pre.length) g1 (show blankB (UInt8.toNat ((pre ++ c :: (m ++ T))[pre.length]'g1)) = true by rw [g2]; exact hm c (List.mem_cons_self ..)) ?_
  have := blanks_on m (pre ++ [c]) (fun x hx => hm x (List.mem_cons_of_mem _ hx)) (by simpa using h)
  simpa using this
noncomputable def asm : Bool → List Tk → List Bytes → Bytes
 | _, [], [m] => m
 | s, x :: r, m :: ms => (if s = true ∧ x.k ≠ 6 then [32] else []) ++ (m ++ if x.k = 6 then 10 :: asm false r ms else x.w ++ asm true r ms)
 | _, _, _ => []
def Pads : List Tk → List Bytes → Prop
 | [], [m] => Pad false m
 | x :: r, m :: ms => Pad (x.k == 6) m ∧ Pads r ms
 | _, _ => False
theorem stop_asm {ms : List Bytes} (h : PlacesT u true p ts) (hp : Pads ts ms) : Stop (asm true ts ms) := by
 cases h with
 | @tok s p q' x rest g hq ht r =>
  have hk := (token_word hq ht).2.2.2.2.2.2.2.2.1
  cases ms with
  | nil => exact hp.elim
  | cons m ms =>
   unfold asm
   rw [if_pos ⟨rfl, by omega⟩]
   exact .inl rfl
 | @eol p q rest g hq he r =>
  cases ms with
  | nil => exact hp.elim
  | cons m ms =>
   unfold asm
   rw [if_neg (by simp), List.nil_append, if_pos rfl]
   exact stop_app (pad_head hp.1) (.inr (.inr rfl))
theorem asm_ref (h : PlacesT u s p ts) : ∀ (ms : List Bytes) (pre : Bytes) (l0 : List (List AV)), Pads ts ms → ∃ ts', SameT ts' ts ∧ RefTo (pre ++ asm s ts ms) pre.length s l0 (.ok (l0 ++ ts'.map Tk.c) 0) := by
 induction h with
 | @nil p =>
  intro ms pre l0 hp
  match ms, hp with
  | [m], hp =>
   refine ⟨[], trivial, ?_⟩
   have e : pre ++ asm false [] [m] = pre ++ (m ++ []) := by unfold asm; simp
   rw [e]
   refine blanks_on m pre (pad_blanks hp) ?_
   rw [List.append_nil]
   refine RefTo.nl (Nat.le_refl _) (by unfold endsB; rw [at?_ge (Nat.le_refl _)]) ?_
   rw [if_neg (by decide)]
   simpa using RefTo.done (u := pre ++ m) (p := (pre ++ m).length + 1) (s := false) (l := l0) (by omega)
 | @tok s p q' x rest g hq ht r ih =>
  intro ms pre l0 hp
  have hk := (token_word hq ht).2.2.2.2.2.2.2.2.1
  match ms, hp with
  | m :: ms, hp =>
   obtain ⟨hp1, hp2⟩ := hp
   rw [beq_f (show x.k ≠ 6 by omega)] at hp1
   have hst := stop_asm r hp2
   obtain ⟨pad, e1⟩ : ∃ pad, pad = (if s = true then [32] else []) ++ m := ⟨_, rfl⟩
   have hpad : ∀ c ∈ pad, blankB (UInt8.toNat c) = true := by
    intro c hc
    rw [e1] at hc
    rcases List.mem_append.1 hc with hc | hc
    ·split at hc
     ·have : c = 32 := by simpa using hc
      subst this
      rfl
     ·cases hc
    ·exact pad_blanks hp1 c hc
   obtain ⟨h1, h2, h3⟩ := token_at (r := asm true rest ms) (pre ++ pad) hq ht hst
   obtain ⟨ts', hs, hR⟩ := ih ms ((pre ++ pad) ++ x.w) (l0 ++ [tokC x.k x.t x.m (pre ++ pad).length]) hp2
   refine ⟨⟨x.k, x.t, x.m, (pre ++ pad).length⟩ :: ts', ⟨rfl, rfl, rfl, hs⟩, ?_⟩
   have e2 : pre ++ asm s (x :: rest) (m :: ms) = pre ++ (pad ++ (wordQ x.k x.t x.m ++ asm true rest ms)) := by
    conv => lhs; unfold asm
    rw [if_neg (show ¬ x.k = 6 by omega), e1]
    cases s with
    | false => rw [if_neg (by simp), if_neg (by decide)]; simp [Tk.w]
    | true => rw [if_pos ⟨rfl, by omega⟩, if_pos rfl]; simp [Tk.w]
   rw [e2]
   refine blanks_on pad pre hpad ?_
   have e3 : pre ++ (pad ++ (wordQ x.k x.t x.m ++ asm true rest ms)) = (pre ++ pad) ++ (wordQ x.k x.t x.m ++ asm true rest ms) := by simp
   rw [e3]
   have e4 : (pre ++ pad) ++ x.w ++ asm true rest ms = (pre ++ pad) ++ (wordQ x.k x.t x.m ++ asm true rest ms) := by rw [List.append_assoc]; rfl
   rw [e4] at hR
   have hlt : (pre ++ pad).length < ((pre ++ pad) ++ (wordQ x.k x.t x.m ++ asm true rest ms)).length := by
    simp only [List.length_append] at h2 ⊢
    omega
   obtain ⟨f1, f2, f3⟩ := first_not hlt h3
   refine RefTo.tok hlt f1 f2 f3 h1 ?_
   have e5 : l0 ++ List.map Tk.c (⟨x.k, x.t, x.m, (pre ++ pad).length⟩ :: ts') = l0 ++ [tokC x.k x.t x.m (pre ++ pad).length] ++ ts'.map Tk.c := by simp [Tk.c]
   rw [e5]
   rw [@List.length_append _ (pre ++ pad) x.w] at hR
   exact hR
 | @eol p q rest g hq he r ih =>
  intro ms pre l0 hp
  match ms, hp with
  | m :: ms, hp =>
   obtain ⟨⟨ps, rfl, hps⟩, hp2⟩ := hp
   have hbl := (pad_bl ps (fun p hp => by
    rcases hps p hp with h | h | ⟨_, h⟩
    ·exact .inl h
    ·exact .inr (.inl h)
    ·exact .inr (.inr h))).1
   obtain ⟨q1, hq1⟩ := bl_to (T := asm false rest ms) (ps.flatten.length + 1) ps.flatten (by omega) hbl pre true l0
   rw [if_pos rfl] at hq1
   obtain ⟨ts', hs, hR⟩ := ih ms (pre ++ (ps.flatten ++ [10])) (l0 ++ [tokC 6 [] 0 q1]) hp2
   refine ⟨⟨6, [], 0, q1⟩ :: ts', ⟨rfl, rfl, rfl, hs⟩, ?_⟩
   have e2 : pre ++ asm true (⟨6, [], 0, q⟩ :: rest) (ps.flatten :: ms) = pre ++ (ps.flatten ++ 10 :: asm false rest ms) := by
    conv => lhs; unfold asm
    rw [if_neg (by simp), if_pos rfl, List.nil_append]
   rw [e2]
   have e5 : l0 ++ List.map Tk.c (⟨6, [], 0, q1⟩ :: ts') = l0 ++ [tokC 6 [] 0 q1] ++ ts'.map Tk.c := by simp [Tk.c]
   rw [e5]
   refine hq1 _ ?_
   have e6 : pre ++ (ps.flatten ++ [10]) ++ asm false rest ms = pre ++ (ps.flatten ++ 10 :: asm false rest ms) := by simp
   rw [e6] at hR
   exact hR
end
set_option maxHeartbeats 4000000
set_option maxRecDepth 20000
noncomputable def law12_LexBlanks_L1b (t1 : AV) (v20 : AV) (v38 : AV) (k39 : AHeap → R) (self : Int → AHeap → R) (t8 : Int) (h_133 : AHeap) : R :=
 obind (lenL t1) fun t41 =>
 lett (decide (t8 < t41)) fun (t42 : Bool) =>
 ifB t42
 (
  obind (idxP 2 t1 t8) fun t47 =>
  obind (fldP 0 t47) fun t48 =>
  obind (ldCell h_133 t48) fun v49 =>
  obind (avInt .i64 v49) fun t49 =>
  obind (lenL v20) fun t51 =>
  lett (IntKind.i64.wrap (t51 + 1)) fun (t52 : Int) =>
  obind (remI .i64 t49 t52) fun t53 =>
  lett (decide (t53 < 0)) fun (t55 : Bool) =>
  lett (fun (t9 : Int) (h_152 : AHeap) =>
   obind (lenL v20) fun t60 =>
   lett (decide (t9 < t60)) fun (t61 : Bool) =>
   lett (fun (t69 : Bool) (h_156 : AHeap) =>
    obind (idxP 2 t1 t8) fun t72 =>
    obind (fldP 1 t72) fun t73 =>
    obind (ldCell h_156 t73) fun v74 =>
    obind (avInt .i64 v74) fun t74 =>
    lett (andI .i64 t74 3) fun (t75 : Int) =>
    lett ((t75 : Int) == 0) fun (t84 : Bool) =>
    lett (fun  (h_169 : AHeap) =>
     lett (IntKind.i64.wrap (t8 + 1)) fun (t44 : Int) =>
     self t44 h_169) fun k168 =>
    ifB t84
    (
     obind (idxP 1 v38 t9) fun t87 =>
     obind (ldCell h_156 t87) fun v88 =>
     obind (avStr v88) fun t88 =>
     obind (addS t88 ([32] : Bytes)) fun t89 =>
     obind (idxP 1 v38 t9) fun t90 =>
     obind (stRow h_156 1 [strA t89] t90) fun h_176 =>
     k168 h_176)
    (
     lett ((t75 : Int) == 1) fun (t92 : Bool) =>
     lett (fun  (h_181 : AHeap) =>
      k168 h_181) fun k180 =>
     ifB t92
     (
      obind (idxP 1 v38 t9) fun t95 =>
      obind (ldCell h_156 t95) fun v96 =>
      obind (avStr v96) fun t96 =>
      obind (addS t96 ([9] : Bytes)) fun t97 =>
      obind (idxP 1 v38 t9) fun t98 =>
      obind (stRow h_156 1 [strA t97] t98) fun h_187 =>
      k180 h_187)
     (
      lett ((t75 : Int) == 2) fun (t100 : Bool) =>
      lett (fun  (h_192 : AHeap) =>
       k180 h_192) fun k191 =>
      ifB t100
      (
       lett (fun  (h_195 : AHeap) =>
        k191 h_195) fun k194 =>
       ifB t69
       (
        obind (idxP 1 v38 t9) fun t104 =>
        obind (ldCell h_156 t104) fun v105 =>
        obind (avStr v105) fun t105 =>
        obind (addS t105 ([32, 35, 32, 97, 32, 34, 114, 101, 109, 97, 114, 107, 32, 123] : Bytes)) fun t106 =>
        obind (idxP 1 v38 t9) fun t107 =>
        obind (stRow h_156 1 [strA t106] t107) fun h_201 =>
        k194 h_201)
       (
        k194 h_156))
      (
       lett (fun  (h_205 : AHeap) =>
        k191 h_205) fun k204 =>
       ifB t69
       (
        obind (idxP 1 v38 t9) fun t79 =>
        obind (ldCell h_156 t79) fun v80 =>
        obind (avStr v80) fun t80 =>
        obind (addS t80 ([32, 10, 9, 35, 32, 110, 111, 116, 104, 105, 110, 103, 10] : Bytes)) fun t81 =>
        obind (idxP 1 v38 t9) fun t82 =>
        obind (stRow h_156 1 [strA t81] t82) fun h_211 =>
        k204 h_211)
       (
        k204 h_156))))) fun j69 =>
   ifB t61
   (
    obind (idxP 4 v20 t9) fun t65 =>
    obind (fldP 0 t65) fun t66 =>
    obind (ldCell h_152 t66) fun v67 =>
    obind (avInt .i64 v67) fun t67 =>
    lett ((t67 : Int) == 6) fun (t68 : Bool) =>
    j69 t68 h_152)
   (
    j69 false h_152)) fun k151 =>
  ifB t55
  (
   lett (IntKind.i64.wrap (0 - t53)) fun (t57 : Int) =>
   k151 t57 h_133)
  (
   k151 t53 h_133))
 (
  k39 h_133)
noncomputable def law12_LexBlanks_L1 (t1 : AV) (v20 : AV) (v38 : AV) (k39 : AHeap → R) : Nat → Int → AHeap → R := iterR (fun _ _ => none) (law12_LexBlanks_L1b t1 v20 v38 k39)
theorem law12_LexBlanks_L1_s (t1 : AV) (v20 : AV) (v38 : AV) (k39 : AHeap → R) (m : Nat) : law12_LexBlanks_L1 t1 v20 v38 k39 (m + 1) = law12_LexBlanks_L1b t1 v20 v38 k39 (law12_LexBlanks_L1 t1 v20 v38 k39 m) := rfl
noncomputable def law12_LexBlanks_L0b (call : CallF) (v20 : AV) (v38 : AV) (k45 : Bytes → AHeap → R) (self : Bytes → Int → AHeap → R) (t11_77 : Bytes) (t12 : Int) (h_78 : AHeap) : R :=
 obind (lenL v20) fun t110 =>
 lett (decide (t12 < t110)) fun (t111 : Bool) =>
 ifB t111
 (
  lett (decide (t12 > 0)) fun (t115 : Bool) =>
  lett (fun (t123 : Bool) (h_88 : AHeap) =>
   lett (fun (t132 : Bool) (h_91 : AHeap) =>
    lett (fun (t11_95 : Bytes) (h_96 : AHeap) =>
     obind (idxP 1 v38 t12) fun t138 =>
     obind (ldCell h_96 t138) fun v139 =>
     obind (avStr v139) fun t139 =>
     obind (addS t11_95 t139) fun t140 =>
     obind (idxP 4 v20 t12) fun t143 =>
     obind (fldP 0 t143) fun t144 =>
     obind (ldCell h_96 t144) fun v145 =>
     obind (avInt .i64 v145) fun t145 =>
     lett ((t145 : Int) == 6) fun (t146 : Bool) =>
     lett (fun (t11_109 : Bytes) (h_110 : AHeap) =>
      lett (IntKind.i64.wrap (t12 + 1)) fun (t113 : Int) =>
      self t11_109 t113 h_110) fun k108 =>
     ifB t146
     (
      obind (addS t140 ([10] : Bytes)) fun t148 =>
      k108 t148 h_96)
     (
      obind (idxP 4 v20 t12) fun t152 =>
      obind (ldRow h_96 4 t152) fun t153 =>
      callK (call 11 [.agg t153] h_96) fun r154 h_115 =>
      obind (avStr r154) fun t154 =>
      obind (addS t140 t154) fun t155 =>
      k108 t155 h_115)) fun k94 =>
    ifB t132
    (
     obind (addS t11_77 ([32] : Bytes)) fun t134 =>
     k94 t134 h_91)
    (
     k94 t11_77 h_91)) fun j132 =>
   ifB t123
   (
    lett (IntKind.i64.wrap (t12 - 1)) fun (t127 : Int) =>
    obind (idxP 4 v20 t127) fun t128 =>
    obind (fldP 0 t128) fun t129 =>
    obind (ldCell h_88 t129) fun v130 =>
    obind (avInt .i64 v130) fun t130 =>
    lett ((t130 : Int) != 6) fun (t131 : Bool) =>
    j132 t131 h_88)
   (
    j132 false h_88)) fun j123 =>
  ifB t115
  (
   obind (idxP 4 v20 t12) fun t119 =>
   obind (fldP 0 t119) fun t120 =>
   obind (ldCell h_78 t120) fun v121 =>
   obind (avInt .i64 v121) fun t121 =>
   lett ((t121 : Int) != 6) fun (t122 : Bool) =>
   j123 t122 h_78)
  (
   j123 false h_78))
 (
  k45 t11_77 h_78)
noncomputable def law12_LexBlanks_L0 (call : CallF) (v20 : AV) (v38 : AV) (k45 : Bytes → AHeap → R) : Nat → Bytes → Int → AHeap → R := iterR (fun _ _ _ => none) (law12_LexBlanks_L0b call v20 v38 k45)
theorem law12_LexBlanks_L0_s (call : CallF) (v20 : AV) (v38 : AV) (k45 : Bytes → AHeap → R) (m : Nat) : law12_LexBlanks_L0 call v20 v38 k45 (m + 1) = law12_LexBlanks_L0b call v20 v38 k45 (law12_LexBlanks_L0 call v20 v38 k45 m) := rfl
noncomputable def law12_LexBlanks (call : CallF) (n : Nat) (t0 : Bytes) (t1 : AV) (h : AHeap) : R :=
 callN (call 6 [] h) fun r15 h_4 =>
 obind (avBool r15) fun t15 =>
 lett (!t15) fun (t16 : Bool) =>
 ifB t16
 (
  some (.ret (.bool false), h_4))
 (
  callN (call 8 [strA t0] h_4) fun r19 h_10 =>
  obind (extT 0 r19) fun v20 =>
  obind (extT 1 r19) fun v21 =>
  obind (avAgg v21) fun t21 =>
  lett (newH h_10 27 [.int .i64 0, .int .i64 0]) fun h_15 =>
  obind (stRow h_15 2 t21 (newP h_10)) fun h_17 =>
  obind (ldCell h_17 (AV.ptr (AHeap.next h_10) 0)) fun v23 =>
  obind (avInt .i64 v23) fun t23 =>
  lett ((t23 : Int) != 0) fun (t24 : Bool) =>
  lett (fun (t29 : Bool) (h_24 : AHeap) =>
   lett (fun (t34 : Bool) (h_27 : AHeap) =>
    ifB t34
    (
     some (.ret (.bool true), h_27))
    (
     obind (lenL v20) fun t36 =>
     lett (IntKind.i64.wrap (t36 + 1)) fun (t37 : Int) =>
     outK (opMakeSlice Pg h_27 33 (some (.int .i64 t37)) (some (.int .i64 t37))) fun v38 h_34 =>
     lett (fun  (h_40 : AHeap) =>
      lett (fun (t11 : Bytes) (h_46 : AHeap) =>
       obind (lenL v20) fun t159 =>
       obind (idxP 1 v38 t159) fun t160 =>
       obind (ldCell h_46 t160) fun v161 =>
       obind (avStr v161) fun t161 =>
       obind (addS t11 t161) fun t162 =>
       lett (decide ((lenS t162) > 2048)) fun (t165 : Bool) =>
       ifB t165
       (
        some (.ret (.bool true), h_46))
       (
        callN (call 8 [strA t162] h_46) fun r168 h_58 =>
        obind (extT 0 r168) fun v169 =>
        obind (extT 1 r168) fun v170 =>
        obind (avAgg v170) fun t170 =>
        lett (newH h_58 27 [.int .i64 0, .int .i64 0]) fun h_63 =>
        obind (stRow h_63 2 t170 (newP h_58)) fun h_65 =>
        obind (ldRow h_65 2 (newP h_58)) fun t171 =>
        obind (eqOther Pg 27 (.agg t171) (.agg ([.int .i64 0, .int .i64 0] : List AV))) fun t173 =>
        lett (fun (t178 : Bool) (h_70 : AHeap) =>
         some (.ret (.bool t178), h_70)) fun j178 =>
        ifB t173
        (
         callN (call 10 [v169, v20] h_65) fun r177 h_73 =>
         obind (avBool r177) fun t177 =>
         j178 t177 h_73)
        (
         j178 false h_65))) fun k45 =>
      law12_LexBlanks_L0 call v20 v38 k45 n ([] : Bytes) 0 h_40) fun k39 =>
     law12_LexBlanks_L1 t1 v20 v38 k39 n 0 h_34)) fun j34 =>
   ifB t29
   (
    j34 true h_24)
   (
    obind (lenL t1) fun t32 =>
    lett (decide (t32 > 40)) fun (t33 : Bool) =>
    j34 t33 h_24)) fun j29 =>
  ifB t24
  (
   j29 true h_17)
  (
   lett (decide ((lenS t0) > 1000)) fun (t28 : Bool) =>
   j29 t28 h_17))
theorem law12_LexBlanks_ok {call : CallF} (hc : SaysAll Pg call) {n : Nat} {t0 : Bytes} {t1 : AV} {h : AHeap} {rR : ARes} {hR : AHeap} (z : law12_LexBlanks call n t0 t1 h = some (rR, hR)) : Says Pg 4 [strA t0, t1] h rR hR := by
 unfold law12_LexBlanks at z
 refine says_of (fn := Tryd.f4) Tryd.func4 (c := codeOf Tryd.f4) (by kernel_rfl) (by kernel_rfl) (fun w0 m0 => ?_)
 refine W.weaken (l' := [(0, strA t0), (1, t1)]) (Fr.c (Fr.c Fr.n)) ?_
 refine W.s (fun _ n1 _ _ p1 => ?_)
 refine W.r ?_
 refine WL.a (some 4) (.bool false) h ?_
 refine WL.n ?_
 refine Go.weaken (l' := [(0, strA t0), (1, t1)]) (Fr.c (Fr.c Fr.n)) ?_
 refine n1 ?_
 refine W.s (fun _ n2 _ q2 p2 => ?_)
 refine W.s (fun _ n3 _ _ _ => ?_)
 refine W.r ?_
 replace z := callN_some z; obtain ⟨r15, h_4, e5, z⟩ := z
 replace z := oS z; obtain ⟨t15, c6, z⟩ := z
 have c6 := avBool_some c6
 subst c6
 refine WL.c (hc.ok w0) (some 15) e5 ?_
 replace z := lS z; obtain ⟨t16, e7, z⟩ := z
 refine WL.val (d := (some 16)) (v := .bool t16) (h' := h_4) (by kernel_rfl) (by kernel_rfl) (val_of AV.bool e7 (by kernel_rfl)) ?_
 refine WL.n ?_
 refine Go.weaken (l' := [(0, strA t0), (1, t1), (16, .bool t16)]) (Fr.c (Fr.c (Fr.c Fr.n))) ?_
 refine n3 ?_
 cases t16 with
 | true =>
  replace z := ifB_t z
  refine W.t ?_
  refine W.s (fun _ n8 _ _ _ => ?_)
  refine W.r ?_
  refine WL.a (some 4) (.bool false) h_4 ?_
  refine WL.n ?_
  refine Go.weaken (l' := [(4, .bool false)]) (Fr.c Fr.n) ?_
  refine n8 ?_
  refine W.ret (by kernel_rfl) ?_
  refine q2 ?_
  obtain ⟨z, hF2⟩ := ret_inj z; subst z; subst hF2
  exact leave_of (rs := [.tmp 4]) (vs := [.bool false]) (by kernel_rfl) (res_tmp (by kernel_rfl) res_nil) (by kernel_rfl)
 | false =>
  replace z := ifB_f z
  refine W.f ?_
  refine W.skip (by kernel_rfl) ?_
  refine n2 ?_
  refine W.s (fun _ n9 _ _ _ => ?_)
  refine W.r ?_
  refine WL.a (some 18) (strA t0) h_4 ?_
  replace z := callN_some z; obtain ⟨r19, h_10, e11, z⟩ := z
  refine WL.c (hc.ok w0) (some 19) e11 ?_
  refine WL.a (some 17) r19 h_10 ?_
  replace z := oS z; obtain ⟨v20, e12, z⟩ := z
  refine WL.b (some 20) v20 h_10 (extract_tup (h := h_10) e12) ?_
  replace z := oS z; obtain ⟨v21, e13, z⟩ := z
  replace z := oS z; obtain ⟨t21, c14, z⟩ := z
  have c14 := avAgg_some c14
  subst c14
  refine WL.b (some 21) (.agg t21) h_10 (extract_tup (h := h_10) e13) ?_
  replace z := lS z; obtain ⟨h_15, e16, z⟩ := z
  refine WL.val (d := (some 6)) (v := (newP h_10)) (h' := h_15) (by kernel_rfl) (by kernel_rfl) (val_ofH e16 (by kernel_rfl)) ?_
  refine WL.a (some 5) v20 h_15 ?_
  replace z := oS z; obtain ⟨h_17, e18, z⟩ := z
  refine WL.e h_17 (store_row (P := Pg) (h := h_15) (t := 27) (v := (.agg t21)) (by kernel_rfl) (by kernel_rfl) e18) ?_
  refine WL.n ?_
  refine Go.weaken (l' := [(0, strA t0), (1, t1), (5, v20), (6, newP h_10)]) (Fr.c (Fr.c (Fr.c (Fr.c Fr.n)))) ?_
  refine n9 ?_
  refine W.s (fun _ n19 _ q19 _ => ?_)
  refine W.s (fun K20 n20 _ _ _ => ?_)
  refine W.r ?_
  refine WL.a (some 22) (AV.ptr (AHeap.next h_10) 0) h_17 ?_
  replace z := oS z; obtain ⟨v23, e21, z⟩ := z
  replace z := oS z; obtain ⟨t23, c22, z⟩ := z
  have c22 := avInt_some c22
  subst c22
  refine WL.b (some 23) (.int .i64 t23) h_17 (load_cell (P := Pg) (h := h_17) (t := 25) (by kernel_rfl) e21) ?_
  replace z := lS z; obtain ⟨t24, e23, z⟩ := z
  refine WL.val (d := (some 24)) (v := .bool t24) (h' := h_17) (by kernel_rfl) (by kernel_rfl) (val_of AV.bool e23 (by kernel_rfl)) ?_
  refine WL.a (some 25) (.bool t24) h_17 ?_
  replace z := lS z; obtain ⟨j29, e25, z⟩ := z
  have J26 : ∀ (t29 : Bool) (h_24 : AHeap), j29 t29 h_24 = some (rR, hR) → WL Pg w0 m0 (Func.ntmps Tryd.f4) (Code.ops (Code.p1 (Code.p1 (Code.p2 (Code.p2 (Code.p2 (codeOf Tryd.f4))))))) 8 K20 [(1, t1), (5, v20), (29, .bool t29)] [] h_24 := by
   intro t29 h_24 z
   rw [e25] at z
   refine WL.a (some 30) (.bool t29) h_24 ?_
   replace z := lS z; obtain ⟨j34, e28, z⟩ := z
   have J29 : ∀ (t34 : Bool) (h_27 : AHeap), j34 t34 h_27 = some (rR, hR) → WL Pg w0 m0 (Func.ntmps Tryd.f4) (Code.ops (Code.p1 (Code.p1 (Code.p2 (Code.p2 (Code.p2 (codeOf Tryd.f4))))))) 13 K20 [(1, t1), (5, v20), (34, .bool t34)] [] h_27 := by
    intro t34 h_27 z
    rw [e28] at z
    refine WL.n ?_
    refine Go.weaken (l' := [(1, t1), (5, v20), (34, .bool t34)]) (Fr.c (Fr.c (Fr.c Fr.n))) ?_
    refine n20 ?_
    cases t34 with
    | true =>
     replace z := ifB_t z
     refine W.t ?_
     refine W.s (fun _ n30 _ _ _ => ?_)
     refine W.r ?_
     refine WL.a (some 4) (.bool true) h_27 ?_
     refine WL.n ?_
     refine Go.weaken (l' := [(4, .bool true)]) (Fr.c Fr.n) ?_
     refine n30 ?_
     refine W.ret (by kernel_rfl) ?_
     refine q19 ?_
     obtain ⟨z, hF2⟩ := ret_inj z; subst z; subst hF2
     exact leave_of (rs := [.tmp 4]) (vs := [.bool true]) (by kernel_rfl) (res_tmp (by kernel_rfl) res_nil) (by kernel_rfl)
    | false =>
     replace z := ifB_f z
     refine W.f ?_
     refine W.skip (by kernel_rfl) ?_
     refine n19 ?_
     refine W.s (fun _ n31 _ _ _ => ?_)
     refine W.r ?_
     refine WL.a (some 35) v20 h_27 ?_
     replace z := oS z; obtain ⟨t36, e32, z⟩ := z
     refine WL.b (some 36) (.int .i64 t36) h_27 (len_row (P := Pg) (h := h_27) (t := 24) (e' := 37) (by kernel_rfl) e32) ?_
     replace z := lS z; obtain ⟨t37, e33, z⟩ := z
     refine WL.val (d := (some 37)) (v := .int .i64 t37) (h' := h_27) (by kernel_rfl) (by kernel_rfl) (val_of (AV.int .i64) e33 (by kernel_rfl)) ?_
     replace z := outK_some z; obtain ⟨v38, h_34, e35, z⟩ := z
     refine WL.b (some 38) v38 h_34 e35 ?_
     refine WL.a (some 7) v38 h_34 ?_
     refine WL.n ?_
     refine Go.weaken (l' := [(1, t1), (5, v20), (7, v38)]) (Fr.c (Fr.c (Fr.c Fr.n))) ?_
     refine n31 ?_
     refine W.s (fun K36 n36 _ _ _ => ?_)
     refine W.s (fun _ n37 _ _ _ => ?_)
     refine W.r ?_
     refine WL.a (some 8) (.int .i64 0) h_34 ?_
     refine WL.n ?_
     refine Go.weaken (l' := [(1, t1), (5, v20), (7, v38), (8, .int .i64 0)]) (Fr.c (Fr.c (Fr.c (Fr.c Fr.n)))) ?_
     refine n37 ?_
     replace z := lS z; obtain ⟨k39, e39, z⟩ := z
     have J39 : ∀  (h_40 : AHeap), k39 h_40 = some (rR, hR) → Go w0 m0 (Func.ntmps Tryd.f4) (K36 .normal) [(5, v20), (7, v38)] [] h_40 := by
      intro  h_40 z
      rw [e39] at z
      refine n36 ?_
      refine W.s (fun _ n41 _ _ _ => ?_)
      refine W.r ?_
      refine WL.a (some 11) (strA ([] : Bytes)) h_40 ?_
      refine WL.n ?_
      refine Go.weaken (l' := [(5, v20), (7, v38), (11, strA ([] : Bytes))]) (Fr.c (Fr.c (Fr.c Fr.n))) ?_
      refine n41 ?_
      refine W.s (fun K42 n42 _ _ p42 => ?_)
      refine W.s (fun _ n43 _ _ _ => ?_)
      refine W.r ?_
      refine WL.a (some 12) (.int .i64 0) h_40 ?_
      refine WL.n ?_
      refine Go.weaken (l' := [(5, v20), (7, v38), (11, strA ([] : Bytes)), (12, .int .i64 0)]) (Fr.c (Fr.c (Fr.c (Fr.c Fr.n)))) ?_
      refine n43 ?_
      replace z := lS z; obtain ⟨k45, e45, z⟩ := z
      have J45 : ∀ (t11 : Bytes) (h_46 : AHeap), k45 t11 h_46 = some (rR, hR) → Go w0 m0 (Func.ntmps Tryd.f4) (K42 .normal) [(5, v20), (7, v38), (11, strA t11)] [] h_46 := by
       intro t11 h_46 z
       rw [e45] at z
       refine n42 ?_
       refine W.s (fun _ n47 _ _ _ => ?_)
       refine W.r ?_
       refine WL.a (some 156) (strA t11) h_46 ?_
       refine WL.a (some 157) v38 h_46 ?_
       refine WL.a (some 158) v20 h_46 ?_
       replace z := oS z; obtain ⟨t159, e48, z⟩ := z
       refine WL.b (some 159) (.int .i64 t159) h_46 (len_row (P := Pg) (h := h_46) (t := 24) (e' := 37) (by kernel_rfl) e48) ?_
       replace z := oS z; obtain ⟨t160, e49, z⟩ := z
       refine WL.b (some 160) t160 h_46 (index_row (P := Pg) (h := h_46) (t := 33) (e' := 9) (k := .i64) (by kernel_rfl) (by kernel_rfl) (by kernel_rfl) e49) ?_
       replace z := oS z; obtain ⟨v161, e50, z⟩ := z
       replace z := oS z; obtain ⟨t161, c51, z⟩ := z
       have c51 := avStr_some c51
       subst c51
       refine WL.b (some 161) (strA t161) h_46 (load_cell (P := Pg) (h := h_46) (t := 9) (by kernel_rfl) e50) ?_
       replace z := oS z; obtain ⟨t162, e52, z⟩ := z
       refine WL.b (some 162) (strA t162) h_46 (add_str (P := Pg) (h := h_46) (t := 9) (lit := false) e52) ?_
       refine WL.a (some 11) (strA t162) h_46 ?_
       refine WL.n ?_
       refine Go.weaken (l' := [(5, v20), (11, strA t162)]) (Fr.c (Fr.c Fr.n)) ?_
       refine n47 ?_
       refine W.s (fun _ n53 _ q53 _ => ?_)
       refine W.s (fun _ n54 _ _ _ => ?_)
       refine W.r ?_
       refine WL.a (some 163) (strA t162) h_46 ?_
       refine WL.a (some 164) (.int .i64 (lenS t162)) h_46 ?_
       replace z := lS z; obtain ⟨t165, e55, z⟩ := z
       refine WL.val (d := (some 165)) (v := .bool t165) (h' := h_46) (by kernel_rfl) (by kernel_rfl) (val_of AV.bool e55 (by kernel_rfl)) ?_
       refine WL.n ?_
       refine Go.weaken (l' := [(5, v20), (11, strA t162), (165, .bool t165)]) (Fr.c (Fr.c (Fr.c Fr.n))) ?_
       refine n54 ?_
       cases t165 with
       | true =>
        replace z := ifB_t z
        refine W.t ?_
        refine W.s (fun _ n56 _ _ _ => ?_)
        refine W.r ?_
        refine WL.a (some 4) (.bool true) h_46 ?_
        refine WL.n ?_
        refine Go.weaken (l' := [(4, .bool true)]) (Fr.c Fr.n) ?_
        refine n56 ?_
        refine W.ret (by kernel_rfl) ?_
        refine q53 ?_
        obtain ⟨z, hF2⟩ := ret_inj z; subst z; subst hF2
        exact leave_of (rs := [.tmp 4]) (vs := [.bool true]) (by kernel_rfl) (res_tmp (by kernel_rfl) res_nil) (by kernel_rfl)
       | false =>
        replace z := ifB_f z
        refine W.f ?_
        refine W.skip (by kernel_rfl) ?_
        refine n53 ?_
        refine W.s (fun _ n57 _ _ _ => ?_)
        refine W.r ?_
        refine WL.a (some 167) (strA t162) h_46 ?_
        replace z := callN_some z; obtain ⟨r168, h_58, e59, z⟩ := z
        refine WL.c (hc.ok w0) (some 168) e59 ?_
        refine WL.a (some 166) r168 h_58 ?_
        replace z := oS z; obtain ⟨v169, e60, z⟩ := z
        refine WL.b (some 169) v169 h_58 (extract_tup (h := h_58) e60) ?_
        replace z := oS z; obtain ⟨v170, e61, z⟩ := z
        replace z := oS z; obtain ⟨t170, c62, z⟩ := z
        have c62 := avAgg_some c62
        subst c62
        refine WL.b (some 170) (.agg t170) h_58 (extract_tup (h := h_58) e61) ?_
        replace z := lS z; obtain ⟨h_63, e64, z⟩ := z
        refine WL.val (d := (some 14)) (v := (newP h_58)) (h' := h_63) (by kernel_rfl) (by kernel_rfl) (val_ofH e64 (by kernel_rfl)) ?_
        refine WL.a (some 13) v169 h_63 ?_
        replace z := oS z; obtain ⟨h_65, e66, z⟩ := z
        refine WL.e h_65 (store_row (P := Pg) (h := h_63) (t := 27) (v := (.agg t170)) (by kernel_rfl) (by kernel_rfl) e66) ?_
        refine WL.n ?_
        refine Go.weaken (l' := [(5, v20), (13, v169), (14, newP h_58)]) (Fr.c (Fr.c (Fr.c Fr.n))) ?_
        refine n57 ?_
        refine W.s (fun K67 n67 _ _ _ => ?_)
        refine W.r ?_
        replace z := oS z; obtain ⟨t171, e68, z⟩ := z
        refine WL.b (some 171) (.agg t171) h_65 (load_row (P := Pg) (h := h_65) (t := 27) (by kernel_rfl) (by kernel_rfl) e68) ?_
        refine WL.a (some 172) (.agg ([.int .i64 0, .int .i64 0] : List AV)) h_65 ?_
        replace z := oS z; obtain ⟨t173, e69, z⟩ := z
        refine WL.b (some 173) (.bool t173) h_65 (eq_other (P := Pg) (h := h_65) (t := 27) (lit := false) (by kernel_rfl) e69) ?_
        refine WL.a (some 174) (.bool t173) h_65 ?_
        replace z := lS z; obtain ⟨j178, e71, z⟩ := z
        have J72 : ∀ (t178 : Bool) (h_70 : AHeap), j178 t178 h_70 = some (rR, hR) → WL Pg w0 m0 (Func.ntmps Tryd.f4) (Code.ops (Code.p1 (Code.p2 (Code.p2 (Code.p2 (Code.p2 (Code.p2 (Code.p2 (Code.p2 (Code.p2 (Code.p2 (Code.p2 (Code.p2 (codeOf Tryd.f4)))))))))))))) 8 K67 [(178, .bool t178)] [] h_70 := by
         intro t178 h_70 z
         rw [e71] at z
         refine WL.a (some 4) (.bool t178) h_70 ?_
         refine WL.n ?_
         refine Go.weaken (l' := [(4, .bool t178)]) (Fr.c Fr.n) ?_
         refine n67 ?_
         refine W.ret (by kernel_rfl) ?_
         obtain ⟨z, hF2⟩ := ret_inj z; subst z; subst hF2
         exact leave_of (rs := [.tmp 4]) (vs := [.bool t178]) (by kernel_rfl) (res_tmp (by kernel_rfl) res_nil) (by kernel_rfl)
        cases t173 with
        | true =>
         replace z := ifB_t z
         refine WL.a (some 175) v169 h_65 ?_
         refine WL.a (some 176) v20 h_65 ?_
         replace z := callN_some z; obtain ⟨r177, h_73, e74, z⟩ := z
         replace z := oS z; obtain ⟨t177, c75, z⟩ := z
         have c75 := avBool_some c75
         subst c75
         refine WL.c (hc.ok w0) (some 177) e74 ?_
         refine WL.a (some 178) (.bool t177) h_73 ?_
         exact WL.weaken (Fr.c Fr.n) (J72 _ _ z)
        | false =>
         replace z := ifB_f z
         refine WL.o (some 175) ?_
         refine WL.o (some 176) ?_
         refine WL.o (some 177) ?_
         refine WL.a (some 178) (.bool false) h_65 ?_
         exact WL.weaken (Fr.c Fr.n) (J72 _ _ z)
      refine W.blockK (by kernel_rfl) (fun K44 n44 s44 o44 q44 p44 => ?_)
      refine W.loopK (by kernel_rfl) (fun I76 K76 b76 n76 e76 q76 p76 => ?_)
      have L76 : ∀ (m : Nat) (t11_77 : Bytes) (t12 : Int) (h_78 : AHeap), law12_LexBlanks_L0 call v20 v38 k45 m t11_77 t12 h_78 = some (rR, hR) → Go w0 m0 (Func.ntmps Tryd.f4) I76 [(5, v20), (7, v38), (11, strA t11_77), (12, .int .i64 t12)] [] h_78 := by
       intro m
       induction m with
       | zero => intro t11_77 t12 h_78 z; cases z
       | succ m ih76 =>
        intro t11_77 t12 h_78 z
        rw [law12_LexBlanks_L0_s] at z; unfold law12_LexBlanks_L0b at z
        refine b76 ?_
        refine W.s (fun _ n79 e79 _ _ => ?_)
        refine W.s (fun _ n80 _ _ _ => ?_)
        refine W.r ?_
        refine WL.a (some 108) (.int .i64 t12) h_78 ?_
        refine WL.a (some 109) v20 h_78 ?_
        replace z := oS z; obtain ⟨t110, e81, z⟩ := z
        refine WL.b (some 110) (.int .i64 t110) h_78 (len_row (P := Pg) (h := h_78) (t := 24) (e' := 37) (by kernel_rfl) e81) ?_
        replace z := lS z; obtain ⟨t111, e82, z⟩ := z
        refine WL.val (d := (some 111)) (v := .bool t111) (h' := h_78) (by kernel_rfl) (by kernel_rfl) (val_of AV.bool e82 (by kernel_rfl)) ?_
        refine WL.n ?_
        refine Go.weaken (l' := [(5, v20), (7, v38), (11, strA t11_77), (12, .int .i64 t12), (111, .bool t111)]) (Fr.c (Fr.c (Fr.c (Fr.c (Fr.c Fr.n))))) ?_
        refine n80 ?_
        cases t111 with
        | true =>
         replace z := ifB_t z
         refine W.t ?_
         refine W.skip (by kernel_rfl) ?_
         refine n79 ?_
         refine W.s (fun _ n83 _ _ p83 => ?_)
         refine W.blockK (by kernel_rfl) (fun K84 n84 s84 o84 q84 p84 => ?_)
         refine W.s (fun K85 n85 _ _ _ => ?_)
         refine W.s (fun K86 n86 _ _ _ => ?_)
         refine W.r ?_
         refine WL.a (some 114) (.int .i64 t12) h_78 ?_
         replace z := lS z; obtain ⟨t115, e87, z⟩ := z
         refine WL.val (d := (some 115)) (v := .bool t115) (h' := h_78) (by kernel_rfl) (by kernel_rfl) (val_of AV.bool e87 (by kernel_rfl)) ?_
         refine WL.a (some 116) (.bool t115) h_78 ?_
         replace z := lS z; obtain ⟨j123, e89, z⟩ := z
         have J90 : ∀ (t123 : Bool) (h_88 : AHeap), j123 t123 h_88 = some (rR, hR) → WL Pg w0 m0 (Func.ntmps Tryd.f4) (Code.ops (Code.p1 (Code.p1 (Code.p1 (Code.p1 (Code.p2 (Code.p1 (Code.p1 (Code.p2 (Code.p1 (Code.p2 (Code.p2 (Code.p2 (Code.p2 (Code.p2 (Code.p2 (Code.p2 (codeOf Tryd.f4)))))))))))))))))) 10 K86 [(5, v20), (7, v38), (11, strA t11_77), (12, .int .i64 t12), (123, .bool t123)] [] h_88 := by
          intro t123 h_88 z
          rw [e89] at z
          refine WL.a (some 124) (.bool t123) h_88 ?_
          replace z := lS z; obtain ⟨j132, e92, z⟩ := z
          have J93 : ∀ (t132 : Bool) (h_91 : AHeap), j132 t132 h_91 = some (rR, hR) → WL Pg w0 m0 (Func.ntmps Tryd.f4) (Code.ops (Code.p1 (Code.p1 (Code.p1 (Code.p1 (Code.p2 (Code.p1 (Code.p1 (Code.p2 (Code.p1 (Code.p2 (Code.p2 (Code.p2 (Code.p2 (Code.p2 (Code.p2 (Code.p2 (codeOf Tryd.f4)))))))))))))))))) 19 K86 [(5, v20), (7, v38), (11, strA t11_77), (12, .int .i64 t12), (132, .bool t132)] [] h_91 := by
           intro t132 h_91 z
           rw [e92] at z
           refine WL.n ?_
           refine Go.weaken (l' := [(5, v20), (7, v38), (11, strA t11_77), (12, .int .i64 t12), (132, .bool t132)]) (Fr.c (Fr.c (Fr.c (Fr.c (Fr.c Fr.n))))) ?_
           refine n86 ?_
           replace z := lS z; obtain ⟨k94, e94, z⟩ := z
           have J94 : ∀ (t11_95 : Bytes) (h_96 : AHeap), k94 t11_95 h_96 = some (rR, hR) → Go w0 m0 (Func.ntmps Tryd.f4) (K85 .normal) [(5, v20), (7, v38), (11, strA t11_95), (12, .int .i64 t12)] [] h_96 := by
            intro t11_95 h_96 z
            rw [e94] at z
            refine n85 ?_
            refine W.s (fun _ n97 _ _ _ => ?_)
            refine W.r ?_
            refine WL.a (some 135) (strA t11_95) h_96 ?_
            refine WL.a (some 136) v38 h_96 ?_
            refine WL.a (some 137) (.int .i64 t12) h_96 ?_
            replace z := oS z; obtain ⟨t138, e98, z⟩ := z
            refine WL.b (some 138) t138 h_96 (index_row (P := Pg) (h := h_96) (t := 33) (e' := 9) (k := .i64) (by kernel_rfl) (by kernel_rfl) (by kernel_rfl) e98) ?_
            replace z := oS z; obtain ⟨v139, e99, z⟩ := z
            replace z := oS z; obtain ⟨t139, c100, z⟩ := z
            have c100 := avStr_some c100
            subst c100
            refine WL.b (some 139) (strA t139) h_96 (load_cell (P := Pg) (h := h_96) (t := 9) (by kernel_rfl) e99) ?_
            replace z := oS z; obtain ⟨t140, e101, z⟩ := z
            refine WL.b (some 140) (strA t140) h_96 (add_str (P := Pg) (h := h_96) (t := 9) (lit := false) e101) ?_
            refine WL.a (some 11) (strA t140) h_96 ?_
            refine WL.n ?_
            refine Go.weaken (l' := [(5, v20), (7, v38), (11, strA t140), (12, .int .i64 t12)]) (Fr.c (Fr.c (Fr.c (Fr.c Fr.n)))) ?_
            refine n97 ?_
            refine W.s (fun _ n102 _ _ _ => ?_)
            refine W.r ?_
            refine WL.a (some 141) v20 h_96 ?_
            refine WL.a (some 142) (.int .i64 t12) h_96 ?_
            replace z := oS z; obtain ⟨t143, e103, z⟩ := z
            refine WL.b (some 143) t143 h_96 (index_row (P := Pg) (h := h_96) (t := 24) (e' := 37) (k := .i64) (by kernel_rfl) (by kernel_rfl) (by kernel_rfl) e103) ?_
            replace z := oS z; obtain ⟨t144, e104, z⟩ := z
            refine WL.b (some 144) t144 h_96 (field_ptr (P := Pg) (h := h_96) (s := 37) (f := 0) (by kernel_rfl) e104) ?_
            replace z := oS z; obtain ⟨v145, e105, z⟩ := z
            replace z := oS z; obtain ⟨t145, c106, z⟩ := z
            have c106 := avInt_some c106
            subst c106
            refine WL.b (some 145) (.int .i64 t145) h_96 (load_cell (P := Pg) (h := h_96) (t := 3) (by kernel_rfl) e105) ?_
            replace z := lS z; obtain ⟨t146, e107, z⟩ := z
            refine WL.val (d := (some 146)) (v := .bool t146) (h' := h_96) (by kernel_rfl) (by kernel_rfl) (val_of AV.bool e107 (by kernel_rfl)) ?_
            refine WL.n ?_
            refine Go.weaken (l' := [(5, v20), (7, v38), (11, strA t140), (12, .int .i64 t12), (146, .bool t146)]) (Fr.c (Fr.c (Fr.c (Fr.c (Fr.c Fr.n))))) ?_
            refine n102 ?_
            replace z := lS z; obtain ⟨k108, e108, z⟩ := z
            have J108 : ∀ (t11_109 : Bytes) (h_110 : AHeap), k108 t11_109 h_110 = some (rR, hR) → Go w0 m0 (Func.ntmps Tryd.f4) (K84 .normal) [(5, v20), (7, v38), (11, strA t11_109), (12, .int .i64 t12)] [] h_110 := by
             intro t11_109 h_110 z
             rw [e108] at z
             refine n84 ?_
             refine n83 ?_
             refine W.r ?_
             refine WL.a (some 112) (.int .i64 t12) h_110 ?_
             replace z := lS z; obtain ⟨t113, e111, z⟩ := z
             refine WL.val (d := (some 113)) (v := .int .i64 t113) (h' := h_110) (by kernel_rfl) (by kernel_rfl) (val_of (AV.int .i64) e111 (by kernel_rfl)) ?_
             refine WL.a (some 12) (.int .i64 t113) h_110 ?_
             refine WL.n ?_
             refine Go.weaken (l' := [(5, v20), (7, v38), (11, strA t11_109), (12, .int .i64 t113)]) (Fr.c (Fr.c (Fr.c (Fr.c Fr.n)))) ?_
             refine n76 ?_
             exact Go.weaken (Fr.c (Fr.c (Fr.c (Fr.c Fr.n)))) (ih76 _ _ _ z)
            cases t146 with
            | true =>
             replace z := ifB_t z
             refine W.t ?_
             refine W.r ?_
             refine WL.a (some 147) (strA t140) h_96 ?_
             replace z := oS z; obtain ⟨t148, e112, z⟩ := z
             refine WL.b (some 148) (strA t148) h_96 (add_str (P := Pg) (h := h_96) (t := 9) (lit := true) e112) ?_
             refine WL.a (some 11) (strA t148) h_96 ?_
             refine WL.n ?_
             refine Go.weaken (l' := [(5, v20), (7, v38), (11, strA t148), (12, .int .i64 t12)]) (Fr.c (Fr.c (Fr.c (Fr.c Fr.n)))) ?_
             exact Go.weaken (Fr.c (Fr.c (Fr.c (Fr.c Fr.n)))) (J108 _ _ z)
            | false =>
             replace z := ifB_f z
             refine W.f ?_
             refine W.r ?_
             refine WL.a (some 149) (strA t140) h_96 ?_
             refine WL.a (some 150) v20 h_96 ?_
             refine WL.a (some 151) (.int .i64 t12) h_96 ?_
             replace z := oS z; obtain ⟨t152, e113, z⟩ := z
             refine WL.b (some 152) t152 h_96 (index_row (P := Pg) (h := h_96) (t := 24) (e' := 37) (k := .i64) (by kernel_rfl) (by kernel_rfl) (by kernel_rfl) e113) ?_
             replace z := oS z; obtain ⟨t153, e114, z⟩ := z
             refine WL.b (some 153) (.agg t153) h_96 (load_row (P := Pg) (h := h_96) (t := 37) (by kernel_rfl) (by kernel_rfl) e114) ?_
             replace z := callK_some z; rcases z with ⟨r154, h_115, e116, z⟩ | ⟨r154, h_115, e116, q119⟩
             ·replace z := oS z; obtain ⟨t154, c117, z⟩ := z
              have c117 := avStr_some c117
              subst c117
              refine WL.c (hc.ok w0) (some 154) e116 ?_
              replace z := oS z; obtain ⟨t155, e118, z⟩ := z
              refine WL.b (some 155) (strA t155) h_115 (add_str (P := Pg) (h := h_115) (t := 9) (lit := false) e118) ?_
              refine WL.a (some 11) (strA t155) h_115 ?_
              refine WL.n ?_
              refine Go.weaken (l' := [(5, v20), (7, v38), (11, strA t155), (12, .int .i64 t12)]) (Fr.c (Fr.c (Fr.c (Fr.c Fr.n)))) ?_
              exact Go.weaken (Fr.c (Fr.c (Fr.c (Fr.c Fr.n)))) (J108 _ _ z)
             ·obtain ⟨zq, zr⟩ := pan_inj q119; subst zq; subst zr
              exact WL.callPanic (hc.ok w0) (d := (some 154)) (by kernel_rfl) (by kernel_rfl) (by kernel_rfl) e116 (p84 (p83 (p76 (p44 (p42 Pan.fin)))))
           cases t132 with
           | true =>
            replace z := ifB_t z
            refine W.t ?_
            refine W.r ?_
            refine WL.a (some 133) (strA t11_77) h_91 ?_
            replace z := oS z; obtain ⟨t134, e120, z⟩ := z
            refine WL.b (some 134) (strA t134) h_91 (add_str (P := Pg) (h := h_91) (t := 9) (lit := true) e120) ?_
            refine WL.a (some 11) (strA t134) h_91 ?_
            refine WL.n ?_
            refine Go.weaken (l' := [(5, v20), (7, v38), (11, strA t134), (12, .int .i64 t12)]) (Fr.c (Fr.c (Fr.c (Fr.c Fr.n)))) ?_
            exact Go.weaken (Fr.c (Fr.c (Fr.c (Fr.c Fr.n)))) (J94 _ _ z)
           | false =>
            replace z := ifB_f z
            refine W.f ?_
            refine W.skip (by kernel_rfl) ?_
            exact Go.weaken (Fr.c (Fr.c (Fr.c (Fr.c Fr.n)))) (J94 _ _ z)
          cases t123 with
          | true =>
           replace z := ifB_t z
           refine WL.a (some 125) v20 h_88 ?_
           refine WL.a (some 126) (.int .i64 t12) h_88 ?_
           replace z := lS z; obtain ⟨t127, e121, z⟩ := z
           refine WL.val (d := (some 127)) (v := .int .i64 t127) (h' := h_88) (by kernel_rfl) (by kernel_rfl) (val_of (AV.int .i64) e121 (by kernel_rfl)) ?_
           replace z := oS z; obtain ⟨t128, e122, z⟩ := z
           refine WL.b (some 128) t128 h_88 (index_row (P := Pg) (h := h_88) (t := 24) (e' := 37) (k := .i64) (by kernel_rfl) (by kernel_rfl) (by kernel_rfl) e122) ?_
           replace z := oS z; obtain ⟨t129, e123, z⟩ := z
           refine WL.b (some 129) t129 h_88 (field_ptr (P := Pg) (h := h_88) (s := 37) (f := 0) (by kernel_rfl) e123) ?_
           replace z := oS z; obtain ⟨v130, e124, z⟩ := z
           replace z := oS z; obtain ⟨t130, c125, z⟩ := z
           have c125 := avInt_some c125
           subst c125
           refine WL.b (some 130) (.int .i64 t130) h_88 (load_cell (P := Pg) (h := h_88) (t := 3) (by kernel_rfl) e124) ?_
           replace z := lS z; obtain ⟨t131, e126, z⟩ := z
           refine WL.val (d := (some 131)) (v := .bool t131) (h' := h_88) (by kernel_rfl) (by kernel_rfl) (val_of AV.bool e126 (by kernel_rfl)) ?_
           refine WL.a (some 132) (.bool t131) h_88 ?_
           exact WL.weaken (Fr.c (Fr.c (Fr.c (Fr.c (Fr.c Fr.n))))) (J93 _ _ z)
          | false =>
           replace z := ifB_f z
           refine WL.o (some 125) ?_
           refine WL.o (some 126) ?_
           refine WL.o (some 127) ?_
           refine WL.o (some 128) ?_
           refine WL.o (some 129) ?_
           refine WL.o (some 130) ?_
           refine WL.o (some 131) ?_
           refine WL.a (some 132) (.bool false) h_88 ?_
           exact WL.weaken (Fr.c (Fr.c (Fr.c (Fr.c (Fr.c Fr.n))))) (J93 _ _ z)
         cases t115 with
         | true =>
          replace z := ifB_t z
          refine WL.a (some 117) v20 h_78 ?_
          refine WL.a (some 118) (.int .i64 t12) h_78 ?_
          replace z := oS z; obtain ⟨t119, e127, z⟩ := z
          refine WL.b (some 119) t119 h_78 (index_row (P := Pg) (h := h_78) (t := 24) (e' := 37) (k := .i64) (by kernel_rfl) (by kernel_rfl) (by kernel_rfl) e127) ?_
          replace z := oS z; obtain ⟨t120, e128, z⟩ := z
          refine WL.b (some 120) t120 h_78 (field_ptr (P := Pg) (h := h_78) (s := 37) (f := 0) (by kernel_rfl) e128) ?_
          replace z := oS z; obtain ⟨v121, e129, z⟩ := z
          replace z := oS z; obtain ⟨t121, c130, z⟩ := z
          have c130 := avInt_some c130
          subst c130
          refine WL.b (some 121) (.int .i64 t121) h_78 (load_cell (P := Pg) (h := h_78) (t := 3) (by kernel_rfl) e129) ?_
          replace z := lS z; obtain ⟨t122, e131, z⟩ := z
          refine WL.val (d := (some 122)) (v := .bool t122) (h' := h_78) (by kernel_rfl) (by kernel_rfl) (val_of AV.bool e131 (by kernel_rfl)) ?_
          refine WL.a (some 123) (.bool t122) h_78 ?_
          exact WL.weaken (Fr.c (Fr.c (Fr.c (Fr.c (Fr.c Fr.n))))) (J90 _ _ z)
         | false =>
          replace z := ifB_f z
          refine WL.o (some 117) ?_
          refine WL.o (some 118) ?_
          refine WL.o (some 119) ?_
          refine WL.o (some 120) ?_
          refine WL.o (some 121) ?_
          refine WL.o (some 122) ?_
          refine WL.a (some 123) (.bool false) h_78 ?_
          exact WL.weaken (Fr.c (Fr.c (Fr.c (Fr.c (Fr.c Fr.n))))) (J90 _ _ z)
        | false =>
         replace z := ifB_f z
         refine W.f ?_
         refine W.exit (by kernel_rfl) ?_
         refine e79 ?_
         refine e76 ?_
         refine s44 (by kernel_rfl) ?_
         exact Go.weaken (Fr.c (Fr.c (Fr.c Fr.n))) (J45 _ _ z)
      exact Go.weaken (Fr.c (Fr.c (Fr.c (Fr.c Fr.n)))) (L76 _ _ _ _ z)
     refine W.blockK (by kernel_rfl) (fun K38 n38 s38 o38 q38 p38 => ?_)
     refine W.loopK (by kernel_rfl) (fun I132 K132 b132 n132 e132 q132 p132 => ?_)
     have L132 : ∀ (m : Nat) (t8 : Int) (h_133 : AHeap), law12_LexBlanks_L1 t1 v20 v38 k39 m t8 h_133 = some (rR, hR) → Go w0 m0 (Func.ntmps Tryd.f4) I132 [(1, t1), (5, v20), (7, v38), (8, .int .i64 t8)] [] h_133 := by
      intro m
      induction m with
      | zero => intro t8 h_133 z; cases z
      | succ m ih132 =>
       intro t8 h_133 z
       rw [law12_LexBlanks_L1_s] at z; unfold law12_LexBlanks_L1b at z
       refine b132 ?_
       refine W.s (fun _ n134 e134 _ _ => ?_)
       refine W.s (fun _ n135 _ _ _ => ?_)
       refine W.r ?_
       refine WL.a (some 39) (.int .i64 t8) h_133 ?_
       refine WL.a (some 40) t1 h_133 ?_
       replace z := oS z; obtain ⟨t41, e136, z⟩ := z
       refine WL.b (some 41) (.int .i64 t41) h_133 (len_row (P := Pg) (h := h_133) (t := 32) (e' := 35) (by kernel_rfl) e136) ?_
       replace z := lS z; obtain ⟨t42, e137, z⟩ := z
       refine WL.val (d := (some 42)) (v := .bool t42) (h' := h_133) (by kernel_rfl) (by kernel_rfl) (val_of AV.bool e137 (by kernel_rfl)) ?_
       refine WL.n ?_
       refine Go.weaken (l' := [(1, t1), (5, v20), (7, v38), (8, .int .i64 t8), (42, .bool t42)]) (Fr.c (Fr.c (Fr.c (Fr.c (Fr.c Fr.n))))) ?_
       refine n135 ?_
       cases t42 with
       | true =>
        replace z := ifB_t z
        refine W.t ?_
        refine W.skip (by kernel_rfl) ?_
        refine n134 ?_
        refine W.s (fun _ n138 _ _ _ => ?_)
        refine W.blockK (by kernel_rfl) (fun K139 n139 s139 o139 q139 p139 => ?_)
        refine W.s (fun _ n140 _ _ _ => ?_)
        refine W.r ?_
        refine WL.a (some 45) t1 h_133 ?_
        refine WL.a (some 46) (.int .i64 t8) h_133 ?_
        replace z := oS z; obtain ⟨t47, e141, z⟩ := z
        refine WL.b (some 47) t47 h_133 (index_row (P := Pg) (h := h_133) (t := 32) (e' := 35) (k := .i64) (by kernel_rfl) (by kernel_rfl) (by kernel_rfl) e141) ?_
        replace z := oS z; obtain ⟨t48, e142, z⟩ := z
        refine WL.b (some 48) t48 h_133 (field_ptr (P := Pg) (h := h_133) (s := 35) (f := 0) (by kernel_rfl) e142) ?_
        replace z := oS z; obtain ⟨v49, e143, z⟩ := z
        replace z := oS z; obtain ⟨t49, c144, z⟩ := z
        have c144 := avInt_some c144
        subst c144
        refine WL.b (some 49) (.int .i64 t49) h_133 (load_cell (P := Pg) (h := h_133) (t := 3) (by kernel_rfl) e143) ?_
        refine WL.a (some 50) v20 h_133 ?_
        replace z := oS z; obtain ⟨t51, e145, z⟩ := z
        refine WL.b (some 51) (.int .i64 t51) h_133 (len_row (P := Pg) (h := h_133) (t := 24) (e' := 37) (by kernel_rfl) e145) ?_
        replace z := lS z; obtain ⟨t52, e146, z⟩ := z
        refine WL.val (d := (some 52)) (v := .int .i64 t52) (h' := h_133) (by kernel_rfl) (by kernel_rfl) (val_of (AV.int .i64) e146 (by kernel_rfl)) ?_
        replace z := oS z; obtain ⟨t53, e147, z⟩ := z
        refine WL.b (some 53) (.int .i64 t53) h_133 (rem_int (P := Pg) (h := h_133) (t := 3) (lit := false) e147) ?_
        refine WL.a (some 9) (.int .i64 t53) h_133 ?_
        refine WL.n ?_
        refine Go.weaken (l' := [(1, t1), (5, v20), (7, v38), (8, .int .i64 t8), (9, .int .i64 t53)]) (Fr.c (Fr.c (Fr.c (Fr.c (Fr.c Fr.n))))) ?_
        refine n140 ?_
        refine W.s (fun K148 n148 _ _ _ => ?_)
        refine W.s (fun _ n149 _ _ _ => ?_)
        refine W.r ?_
        refine WL.a (some 54) (.int .i64 t53) h_133 ?_
        replace z := lS z; obtain ⟨t55, e150, z⟩ := z
        refine WL.val (d := (some 55)) (v := .bool t55) (h' := h_133) (by kernel_rfl) (by kernel_rfl) (val_of AV.bool e150 (by kernel_rfl)) ?_
        refine WL.n ?_
        refine Go.weaken (l' := [(1, t1), (5, v20), (7, v38), (8, .int .i64 t8), (9, .int .i64 t53), (55, .bool t55)]) (Fr.c (Fr.c (Fr.c (Fr.c (Fr.c (Fr.c Fr.n)))))) ?_
        refine n149 ?_
        replace z := lS z; obtain ⟨k151, e151, z⟩ := z
        have J151 : ∀ (t9 : Int) (h_152 : AHeap), k151 t9 h_152 = some (rR, hR) → Go w0 m0 (Func.ntmps Tryd.f4) (K148 .normal) [(1, t1), (5, v20), (7, v38), (8, .int .i64 t8), (9, .int .i64 t9)] [] h_152 := by
         intro t9 h_152 z
         rw [e151] at z
         refine n148 ?_
         refine W.s (fun K153 n153 _ _ _ => ?_)
         refine W.r ?_
         refine WL.a (some 58) (.int .i64 t9) h_152 ?_
         refine WL.a (some 59) v20 h_152 ?_
         replace z := oS z; obtain ⟨t60, e154, z⟩ := z
         refine WL.b (some 60) (.int .i64 t60) h_152 (len_row (P := Pg) (h := h_152) (t := 24) (e' := 37) (by kernel_rfl) e154) ?_
         replace z := lS z; obtain ⟨t61, e155, z⟩ := z
         refine WL.val (d := (some 61)) (v := .bool t61) (h' := h_152) (by kernel_rfl) (by kernel_rfl) (val_of AV.bool e155 (by kernel_rfl)) ?_
         refine WL.a (some 62) (.bool t61) h_152 ?_
         replace z := lS z; obtain ⟨j69, e157, z⟩ := z
         have J158 : ∀ (t69 : Bool) (h_156 : AHeap), j69 t69 h_156 = some (rR, hR) → WL Pg w0 m0 (Func.ntmps Tryd.f4) (Code.ops (Code.p1 (Code.p2 (Code.p2 (Code.p1 (Code.p1 (Code.p2 (Code.p1 (Code.p1 (Code.p2 (Code.p1 (Code.p2 (Code.p2 (Code.p2 (Code.p2 (Code.p2 (codeOf Tryd.f4))))))))))))))))) 12 K153 [(1, t1), (5, v20), (7, v38), (8, .int .i64 t8), (9, .int .i64 t9), (69, .bool t69)] [] h_156 := by
          intro t69 h_156 z
          rw [e157] at z
          refine WL.a (some 10) (.bool t69) h_156 ?_
          refine WL.n ?_
          refine Go.weaken (l' := [(1, t1), (5, v20), (7, v38), (8, .int .i64 t8), (9, .int .i64 t9), (10, .bool t69)]) (Fr.c (Fr.c (Fr.c (Fr.c (Fr.c (Fr.c Fr.n)))))) ?_
          refine n153 ?_
          refine W.s (fun _ n159 _ _ _ => ?_)
          refine W.r ?_
          refine WL.a (some 70) t1 h_156 ?_
          refine WL.a (some 71) (.int .i64 t8) h_156 ?_
          replace z := oS z; obtain ⟨t72, e160, z⟩ := z
          refine WL.b (some 72) t72 h_156 (index_row (P := Pg) (h := h_156) (t := 32) (e' := 35) (k := .i64) (by kernel_rfl) (by kernel_rfl) (by kernel_rfl) e160) ?_
          replace z := oS z; obtain ⟨t73, e161, z⟩ := z
          refine WL.b (some 73) t73 h_156 (field_ptr (P := Pg) (h := h_156) (s := 35) (f := 1) (by kernel_rfl) e161) ?_
          replace z := oS z; obtain ⟨v74, e162, z⟩ := z
          replace z := oS z; obtain ⟨t74, c163, z⟩ := z
          have c163 := avInt_some c163
          subst c163
          refine WL.b (some 74) (.int .i64 t74) h_156 (load_cell (P := Pg) (h := h_156) (t := 3) (by kernel_rfl) e162) ?_
          replace z := lS z; obtain ⟨t75, e164, z⟩ := z
          refine WL.val (d := (some 75)) (v := .int .i64 t75) (h' := h_156) (by kernel_rfl) (by kernel_rfl) (val_of (AV.int .i64) e164 (by kernel_rfl)) ?_
          refine WL.n ?_
          refine Go.weaken (l' := [(1, t1), (5, v20), (7, v38), (8, .int .i64 t8), (9, .int .i64 t9), (10, .bool t69), (75, .int .i64 t75)]) (Fr.c (Fr.c (Fr.c (Fr.c (Fr.c (Fr.c (Fr.c Fr.n))))))) ?_
          refine n159 ?_
          refine W.blockK (by kernel_rfl) (fun K165 n165 s165 o165 q165 p165 => ?_)
          refine W.s (fun _ n166 _ _ _ => ?_)
          refine W.r ?_
          replace z := lS z; obtain ⟨t84, e167, z⟩ := z
          refine WL.val (d := (some 84)) (v := .bool t84) (h' := h_156) (by kernel_rfl) (by kernel_rfl) (val_of AV.bool e167 (by kernel_rfl)) ?_
          refine WL.a (some 83) (.bool t84) h_156 ?_
          refine WL.n ?_
          refine Go.weaken (l' := [(1, t1), (5, v20), (7, v38), (8, .int .i64 t8), (9, .int .i64 t9), (10, .bool t69), (75, .int .i64 t75), (83, .bool t84)]) (Fr.c (Fr.c (Fr.c (Fr.c (Fr.c (Fr.c (Fr.c (Fr.c Fr.n)))))))) ?_
          refine n166 ?_
          replace z := lS z; obtain ⟨k168, e168, z⟩ := z
          have J168 : ∀  (h_169 : AHeap), k168 h_169 = some (rR, hR) → Go w0 m0 (Func.ntmps Tryd.f4) (K165 .normal) [(1, t1), (5, v20), (7, v38), (8, .int .i64 t8)] [] h_169 := by
           intro  h_169 z
           rw [e168] at z
           refine n165 ?_
           refine n139 ?_
           refine n138 ?_
           refine W.r ?_
           refine WL.a (some 43) (.int .i64 t8) h_169 ?_
           replace z := lS z; obtain ⟨t44, e170, z⟩ := z
           refine WL.val (d := (some 44)) (v := .int .i64 t44) (h' := h_169) (by kernel_rfl) (by kernel_rfl) (val_of (AV.int .i64) e170 (by kernel_rfl)) ?_
           refine WL.a (some 8) (.int .i64 t44) h_169 ?_
           refine WL.n ?_
           refine Go.weaken (l' := [(1, t1), (5, v20), (7, v38), (8, .int .i64 t44)]) (Fr.c (Fr.c (Fr.c (Fr.c Fr.n)))) ?_
           refine n132 ?_
           exact Go.weaken (Fr.c (Fr.c (Fr.c (Fr.c Fr.n)))) (ih132 _ _ z)
          cases t84 with
          | true =>
           replace z := ifB_t z
           refine W.t ?_
           refine W.r ?_
           refine WL.a (some 85) v38 h_156 ?_
           refine WL.a (some 86) (.int .i64 t9) h_156 ?_
           replace z := oS z; obtain ⟨t87, e171, z⟩ := z
           refine WL.b (some 87) t87 h_156 (index_row (P := Pg) (h := h_156) (t := 33) (e' := 9) (k := .i64) (by kernel_rfl) (by kernel_rfl) (by kernel_rfl) e171) ?_
           replace z := oS z; obtain ⟨v88, e172, z⟩ := z
           replace z := oS z; obtain ⟨t88, c173, z⟩ := z
           have c173 := avStr_some c173
           subst c173
           refine WL.b (some 88) (strA t88) h_156 (load_cell (P := Pg) (h := h_156) (t := 9) (by kernel_rfl) e172) ?_
           replace z := oS z; obtain ⟨t89, e174, z⟩ := z
           refine WL.b (some 89) (strA t89) h_156 (add_str (P := Pg) (h := h_156) (t := 9) (lit := true) e174) ?_
           replace z := oS z; obtain ⟨t90, e175, z⟩ := z
           refine WL.b (some 90) t90 h_156 (index_row (P := Pg) (h := h_156) (t := 33) (e' := 9) (k := .i64) (by kernel_rfl) (by kernel_rfl) (by kernel_rfl) e175) ?_
           replace z := oS z; obtain ⟨h_176, e177, z⟩ := z
           refine WL.e h_176 (store_row (P := Pg) (h := h_156) (t := 9) (v := (strA t89)) (by kernel_rfl) (by kernel_rfl) e177) ?_
           refine WL.n ?_
           refine Go.weaken (l' := [(1, t1), (5, v20), (7, v38), (8, .int .i64 t8)]) (Fr.c (Fr.c (Fr.c (Fr.c Fr.n)))) ?_
           exact Go.weaken (Fr.c (Fr.c (Fr.c (Fr.c Fr.n)))) (J168 _ z)
          | false =>
           replace z := ifB_f z
           refine W.f ?_
           refine W.s (fun _ n178 _ _ _ => ?_)
           refine W.r ?_
           replace z := lS z; obtain ⟨t92, e179, z⟩ := z
           refine WL.val (d := (some 92)) (v := .bool t92) (h' := h_156) (by kernel_rfl) (by kernel_rfl) (val_of AV.bool e179 (by kernel_rfl)) ?_
           refine WL.a (some 91) (.bool t92) h_156 ?_
           refine WL.n ?_
           refine Go.weaken (l' := [(1, t1), (5, v20), (7, v38), (8, .int .i64 t8), (9, .int .i64 t9), (10, .bool t69), (75, .int .i64 t75), (91, .bool t92)]) (Fr.c (Fr.c (Fr.c (Fr.c (Fr.c (Fr.c (Fr.c (Fr.c Fr.n)))))))) ?_
           refine n178 ?_
           replace z := lS z; obtain ⟨k180, e180, z⟩ := z
           have J180 : ∀  (h_181 : AHeap), k180 h_181 = some (rR, hR) → Go w0 m0 (Func.ntmps Tryd.f4) (K165 .normal) [(1, t1), (5, v20), (7, v38), (8, .int .i64 t8)] [] h_181 := by
            intro  h_181 z
            rw [e180] at z
            exact Go.weaken (Fr.c (Fr.c (Fr.c (Fr.c Fr.n)))) (J168 _ z)
           cases t92 with
           | true =>
            replace z := ifB_t z
            refine W.t ?_
            refine W.r ?_
            refine WL.a (some 93) v38 h_156 ?_
            refine WL.a (some 94) (.int .i64 t9) h_156 ?_
            replace z := oS z; obtain ⟨t95, e182, z⟩ := z
            refine WL.b (some 95) t95 h_156 (index_row (P := Pg) (h := h_156) (t := 33) (e' := 9) (k := .i64) (by kernel_rfl) (by kernel_rfl) (by kernel_rfl) e182) ?_
            replace z := oS z; obtain ⟨v96, e183, z⟩ := z
            replace z := oS z; obtain ⟨t96, c184, z⟩ := z
            have c184 := avStr_some c184
            subst c184
            refine WL.b (some 96) (strA t96) h_156 (load_cell (P := Pg) (h := h_156) (t := 9) (by kernel_rfl) e183) ?_
            replace z := oS z; obtain ⟨t97, e185, z⟩ := z
            refine WL.b (some 97) (strA t97) h_156 (add_str (P := Pg) (h := h_156) (t := 9) (lit := true) e185) ?_
            replace z := oS z; obtain ⟨t98, e186, z⟩ := z
            refine WL.b (some 98) t98 h_156 (index_row (P := Pg) (h := h_156) (t := 33) (e' := 9) (k := .i64) (by kernel_rfl) (by kernel_rfl) (by kernel_rfl) e186) ?_
            replace z := oS z; obtain ⟨h_187, e188, z⟩ := z
            refine WL.e h_187 (store_row (P := Pg) (h := h_156) (t := 9) (v := (strA t97)) (by kernel_rfl) (by kernel_rfl) e188) ?_
            refine WL.n ?_
            refine Go.weaken (l' := [(1, t1), (5, v20), (7, v38), (8, .int .i64 t8)]) (Fr.c (Fr.c (Fr.c (Fr.c Fr.n)))) ?_
            exact Go.weaken (Fr.c (Fr.c (Fr.c (Fr.c Fr.n)))) (J180 _ z)
           | false =>
            replace z := ifB_f z
            refine W.f ?_
            refine W.s (fun _ n189 _ _ _ => ?_)
            refine W.r ?_
            replace z := lS z; obtain ⟨t100, e190, z⟩ := z
            refine WL.val (d := (some 100)) (v := .bool t100) (h' := h_156) (by kernel_rfl) (by kernel_rfl) (val_of AV.bool e190 (by kernel_rfl)) ?_
            refine WL.a (some 99) (.bool t100) h_156 ?_
            refine WL.n ?_
            refine Go.weaken (l' := [(1, t1), (5, v20), (7, v38), (8, .int .i64 t8), (9, .int .i64 t9), (10, .bool t69), (99, .bool t100)]) (Fr.c (Fr.c (Fr.c (Fr.c (Fr.c (Fr.c (Fr.c Fr.n))))))) ?_
            refine n189 ?_
            replace z := lS z; obtain ⟨k191, e191, z⟩ := z
            have J191 : ∀  (h_192 : AHeap), k191 h_192 = some (rR, hR) → Go w0 m0 (Func.ntmps Tryd.f4) (K165 .normal) [(1, t1), (5, v20), (7, v38), (8, .int .i64 t8)] [] h_192 := by
             intro  h_192 z
             rw [e191] at z
             exact Go.weaken (Fr.c (Fr.c (Fr.c (Fr.c Fr.n)))) (J180 _ z)
            cases t100 with
            | true =>
             replace z := ifB_t z
             refine W.t ?_
             refine W.s (fun _ n193 _ _ _ => ?_)
             refine W.r ?_
             refine WL.a (some 101) (.bool t69) h_156 ?_
             refine WL.n ?_
             refine Go.weaken (l' := [(1, t1), (5, v20), (7, v38), (8, .int .i64 t8), (9, .int .i64 t9), (101, .bool t69)]) (Fr.c (Fr.c (Fr.c (Fr.c (Fr.c (Fr.c Fr.n)))))) ?_
             refine n193 ?_
             replace z := lS z; obtain ⟨k194, e194, z⟩ := z
             have J194 : ∀  (h_195 : AHeap), k194 h_195 = some (rR, hR) → Go w0 m0 (Func.ntmps Tryd.f4) (K165 .normal) [(1, t1), (5, v20), (7, v38), (8, .int .i64 t8)] [] h_195 := by
              intro  h_195 z
              rw [e194] at z
              exact Go.weaken (Fr.c (Fr.c (Fr.c (Fr.c Fr.n)))) (J191 _ z)
             cases t69 with
             | true =>
              replace z := ifB_t z
              refine W.t ?_
              refine W.r ?_
              refine WL.a (some 102) v38 h_156 ?_
              refine WL.a (some 103) (.int .i64 t9) h_156 ?_
              replace z := oS z; obtain ⟨t104, e196, z⟩ := z
              refine WL.b (some 104) t104 h_156 (index_row (P := Pg) (h := h_156) (t := 33) (e' := 9) (k := .i64) (by kernel_rfl) (by kernel_rfl) (by kernel_rfl) e196) ?_
              replace z := oS z; obtain ⟨v105, e197, z⟩ := z
              replace z := oS z; obtain ⟨t105, c198, z⟩ := z
              have c198 := avStr_some c198
              subst c198
              refine WL.b (some 105) (strA t105) h_156 (load_cell (P := Pg) (h := h_156) (t := 9) (by kernel_rfl) e197) ?_
              replace z := oS z; obtain ⟨t106, e199, z⟩ := z
              refine WL.b (some 106) (strA t106) h_156 (add_str (P := Pg) (h := h_156) (t := 9) (lit := true) e199) ?_
              replace z := oS z; obtain ⟨t107, e200, z⟩ := z
              refine WL.b (some 107) t107 h_156 (index_row (P := Pg) (h := h_156) (t := 33) (e' := 9) (k := .i64) (by kernel_rfl) (by kernel_rfl) (by kernel_rfl) e200) ?_
              replace z := oS z; obtain ⟨h_201, e202, z⟩ := z
              refine WL.e h_201 (store_row (P := Pg) (h := h_156) (t := 9) (v := (strA t106)) (by kernel_rfl) (by kernel_rfl) e202) ?_
              refine WL.n ?_
              refine Go.weaken (l' := [(1, t1), (5, v20), (7, v38), (8, .int .i64 t8)]) (Fr.c (Fr.c (Fr.c (Fr.c Fr.n)))) ?_
              exact Go.weaken (Fr.c (Fr.c (Fr.c (Fr.c Fr.n)))) (J194 _ z)
             | false =>
              replace z := ifB_f z
              refine W.f ?_
              refine W.skip (by kernel_rfl) ?_
              exact Go.weaken (Fr.c (Fr.c (Fr.c (Fr.c Fr.n)))) (J194 _ z)
            | false =>
             replace z := ifB_f z
             refine W.f ?_
             refine W.s (fun _ n203 _ _ _ => ?_)
             refine W.r ?_
             refine WL.a (some 76) (.bool t69) h_156 ?_
             refine WL.n ?_
             refine Go.weaken (l' := [(1, t1), (5, v20), (7, v38), (8, .int .i64 t8), (9, .int .i64 t9), (76, .bool t69)]) (Fr.c (Fr.c (Fr.c (Fr.c (Fr.c (Fr.c Fr.n)))))) ?_
             refine n203 ?_
             replace z := lS z; obtain ⟨k204, e204, z⟩ := z
             have J204 : ∀  (h_205 : AHeap), k204 h_205 = some (rR, hR) → Go w0 m0 (Func.ntmps Tryd.f4) (K165 .normal) [(1, t1), (5, v20), (7, v38), (8, .int .i64 t8)] [] h_205 := by
              intro  h_205 z
              rw [e204] at z
              exact Go.weaken (Fr.c (Fr.c (Fr.c (Fr.c Fr.n)))) (J191 _ z)
             cases t69 with
             | true =>
              replace z := ifB_t z
              refine W.t ?_
              refine W.r ?_
              refine WL.a (some 77) v38 h_156 ?_
              refine WL.a (some 78) (.int .i64 t9) h_156 ?_
              replace z := oS z; obtain ⟨t79, e206, z⟩ := z
              refine WL.b (some 79) t79 h_156 (index_row (P := Pg) (h := h_156) (t := 33) (e' := 9) (k := .i64) (by kernel_rfl) (by kernel_rfl) (by kernel_rfl) e206) ?_
              replace z := oS z; obtain ⟨v80, e207, z⟩ := z
              replace z := oS z; obtain ⟨t80, c208, z⟩ := z
              have c208 := avStr_some c208
              subst c208
              refine WL.b (some 80) (strA t80) h_156 (load_cell (P := Pg) (h := h_156) (t := 9) (by kernel_rfl) e207) ?_
              replace z := oS z; obtain ⟨t81, e209, z⟩ := z
              refine WL.b (some 81) (strA t81) h_156 (add_str (P := Pg) (h := h_156) (t := 9) (lit := true) e209) ?_
              replace z := oS z; obtain ⟨t82, e210, z⟩ := z
              refine WL.b (some 82) t82 h_156 (index_row (P := Pg) (h := h_156) (t := 33) (e' := 9) (k := .i64) (by kernel_rfl) (by kernel_rfl) (by kernel_rfl) e210) ?_
              replace z := oS z; obtain ⟨h_211, e212, z⟩ := z
              refine WL.e h_211 (store_row (P := Pg) (h := h_156) (t := 9) (v := (strA t81)) (by kernel_rfl) (by kernel_rfl) e212) ?_
              refine WL.n ?_
              refine Go.weaken (l' := [(1, t1), (5, v20), (7, v38), (8, .int .i64 t8)]) (Fr.c (Fr.c (Fr.c (Fr.c Fr.n)))) ?_
              exact Go.weaken (Fr.c (Fr.c (Fr.c (Fr.c Fr.n)))) (J204 _ z)
             | false =>
              replace z := ifB_f z
              refine W.f ?_
              refine W.skip (by kernel_rfl) ?_
              exact Go.weaken (Fr.c (Fr.c (Fr.c (Fr.c Fr.n)))) (J204 _ z)
         cases t61 with
         | true =>
          replace z := ifB_t z
          refine WL.a (some 63) v20 h_152 ?_
          refine WL.a (some 64) (.int .i64 t9) h_152 ?_
          replace z := oS z; obtain ⟨t65, e213, z⟩ := z
          refine WL.b (some 65) t65 h_152 (index_row (P := Pg) (h := h_152) (t := 24) (e' := 37) (k := .i64) (by kernel_rfl) (by kernel_rfl) (by kernel_rfl) e213) ?_
          replace z := oS z; obtain ⟨t66, e214, z⟩ := z
          refine WL.b (some 66) t66 h_152 (field_ptr (P := Pg) (h := h_152) (s := 37) (f := 0) (by kernel_rfl) e214) ?_
          replace z := oS z; obtain ⟨v67, e215, z⟩ := z
          replace z := oS z; obtain ⟨t67, c216, z⟩ := z
          have c216 := avInt_some c216
          subst c216
          refine WL.b (some 67) (.int .i64 t67) h_152 (load_cell (P := Pg) (h := h_152) (t := 3) (by kernel_rfl) e215) ?_
          replace z := lS z; obtain ⟨t68, e217, z⟩ := z
          refine WL.val (d := (some 68)) (v := .bool t68) (h' := h_152) (by kernel_rfl) (by kernel_rfl) (val_of AV.bool e217 (by kernel_rfl)) ?_
          refine WL.a (some 69) (.bool t68) h_152 ?_
          exact WL.weaken (Fr.c (Fr.c (Fr.c (Fr.c (Fr.c (Fr.c Fr.n)))))) (J158 _ _ z)
         | false =>
          replace z := ifB_f z
          refine WL.o (some 63) ?_
          refine WL.o (some 64) ?_
          refine WL.o (some 65) ?_
          refine WL.o (some 66) ?_
          refine WL.o (some 67) ?_
          refine WL.o (some 68) ?_
          refine WL.a (some 69) (.bool false) h_152 ?_
          exact WL.weaken (Fr.c (Fr.c (Fr.c (Fr.c (Fr.c (Fr.c Fr.n)))))) (J158 _ _ z)
        cases t55 with
        | true =>
         replace z := ifB_t z
         refine W.t ?_
         refine W.r ?_
         refine WL.a (some 56) (.int .i64 t53) h_133 ?_
         replace z := lS z; obtain ⟨t57, e218, z⟩ := z
         refine WL.val (d := (some 57)) (v := .int .i64 t57) (h' := h_133) (by kernel_rfl) (by kernel_rfl) (val_of (AV.int .i64) e218 (by kernel_rfl)) ?_
         refine WL.a (some 9) (.int .i64 t57) h_133 ?_
         refine WL.n ?_
         refine Go.weaken (l' := [(1, t1), (5, v20), (7, v38), (8, .int .i64 t8), (9, .int .i64 t57)]) (Fr.c (Fr.c (Fr.c (Fr.c (Fr.c Fr.n))))) ?_
         exact Go.weaken (Fr.c (Fr.c (Fr.c (Fr.c (Fr.c Fr.n))))) (J151 _ _ z)
        | false =>
         replace z := ifB_f z
         refine W.f ?_
         refine W.skip (by kernel_rfl) ?_
         exact Go.weaken (Fr.c (Fr.c (Fr.c (Fr.c (Fr.c Fr.n))))) (J151 _ _ z)
       | false =>
        replace z := ifB_f z
        refine W.f ?_
        refine W.exit (by kernel_rfl) ?_
        refine e134 ?_
        refine e132 ?_
        refine s38 (by kernel_rfl) ?_
        exact Go.weaken (Fr.c (Fr.c Fr.n)) (J39 _ z)
     exact Go.weaken (Fr.c (Fr.c (Fr.c (Fr.c Fr.n)))) (L132 _ _ _ z)
   cases t29 with
   | true =>
    replace z := ifB_t z
    refine WL.o (some 31) ?_
    refine WL.o (some 32) ?_
    refine WL.o (some 33) ?_
    refine WL.a (some 34) (.bool true) h_24 ?_
    exact WL.weaken (Fr.c (Fr.c (Fr.c Fr.n))) (J29 _ _ z)
   | false =>
    replace z := ifB_f z
    refine WL.a (some 31) t1 h_24 ?_
    replace z := oS z; obtain ⟨t32, e219, z⟩ := z
    refine WL.b (some 32) (.int .i64 t32) h_24 (len_row (P := Pg) (h := h_24) (t := 32) (e' := 35) (by kernel_rfl) e219) ?_
    replace z := lS z; obtain ⟨t33, e220, z⟩ := z
    refine WL.val (d := (some 33)) (v := .bool t33) (h' := h_24) (by kernel_rfl) (by kernel_rfl) (val_of AV.bool e220 (by kernel_rfl)) ?_
    refine WL.a (some 34) (.bool t33) h_24 ?_
    exact WL.weaken (Fr.c (Fr.c (Fr.c Fr.n))) (J29 _ _ z)
  cases t24 with
  | true =>
   replace z := ifB_t z
   refine WL.o (some 26) ?_
   refine WL.o (some 27) ?_
   refine WL.o (some 28) ?_
   refine WL.a (some 29) (.bool true) h_17 ?_
   exact WL.weaken (Fr.c (Fr.c (Fr.c Fr.n))) (J26 _ _ z)
  | false =>
   replace z := ifB_f z
   refine WL.a (some 26) (strA t0) h_17 ?_
   refine WL.a (some 27) (.int .i64 (lenS t0)) h_17 ?_
   replace z := lS z; obtain ⟨t28, e221, z⟩ := z
   refine WL.val (d := (some 28)) (v := .bool t28) (h' := h_17) (by kernel_rfl) (by kernel_rfl) (val_of AV.bool e221 (by kernel_rfl)) ?_
   refine WL.a (some 29) (.bool t28) h_17 ?_
   exact WL.weaken (Fr.c (Fr.c (Fr.c Fr.n))) (J26 _ _ z)
abbrev TStr : Nat := 9
def padE (ts : List Tk) (j : Nat) : Bool := match ts[j]? with
 | some x => x.k == 6
 | none => false
def PadsI (ts : List Tk) (ms : List Bytes) (B : Nat) : Prop := ms.length = ts.length + 1 ∧ (∀ j m, ms[j]? = some m → Pad (padE ts j) m) ∧ ∀ m ∈ ms, m.length ≤ B
theorem PadsI.pads : ∀ {ts : List Tk} {ms : List Bytes} {B : Nat}, PadsI ts ms B → Pads ts ms
 | [], [m], _, ⟨_, h2, _⟩ => h2 0 m rfl
 | [], [], _, ⟨h1, _, _⟩ => by simp at h1
 | [], _ :: _ :: _, _, ⟨h1, _, _⟩ => by simp at h1
 | _ :: _, [], _, ⟨h1, _, _⟩ => by simp at h1
 | x :: r, m :: ms, B, ⟨h1, h2, h3⟩ => by
  refine ⟨h2 0 m rfl, PadsI.pads (B := B) ⟨by simpa using h1, fun j m' hj => ?_, fun m' hm => h3 m' (List.mem_cons_of_mem _ hm)⟩⟩
  have := h2 (j + 1) m' (by simpa using hj)
  unfold padE at this ⊢
  simpa using this
theorem PadsI.set {ts : List Tk} {ms : List Bytes} {B : Nat} (h : PadsI ts ms B) {k : Nat} {p : Bytes} (hk : k < ms.length) (hp : p = [32] ∨ p = [9] ∨ (padE ts k = true ∧ (p = remB ∨ p = linB))) : PadsI ts (ms.set k (ms[k] ++ p)) (B + 14) := by
 obtain ⟨h1, h2, h3⟩ := h
 have hpl : p.length ≤ 14 := by
  rcases hp with rfl | rfl | ⟨_, rfl | rfl⟩ <;> decide
 refine ⟨by rw [List.length_set]; exact h1, fun j m hj => ?_, fun m hm => ?_⟩
 ·rw [List.getElem?_set] at hj
  split at hj
  ·rename_i e
   subst e
   cases hj
   exact (h2 k _ (List.getElem?_eq_getElem hk)).more hp
  ·exact h2 j m hj
 ·rcases List.mem_or_eq_of_mem_set hm with hm | rfl
  ·have := h3 m hm
   omega
  ·have := h3 _ (List.getElem_mem hk)
   rw [List.length_append]
   omega
theorem PadsI.mono {ts : List Tk} {ms : List Bytes} {B B' : Nat} (h : PadsI ts ms B) (hB : B ≤ B') : PadsI ts ms B' := ⟨h.1, h.2.1, fun m hm => Nat.le_trans (h.2.2 m hm) hB⟩
theorem strA_one (l : List Bytes) : (l.map strA).all AV.one = true := by
 rw [List.all_eq_true]
 intro x hx
 obtain ⟨b, _, rfl⟩ := List.mem_map.1 hx
 rfl
theorem zeroS : zeroA Tryd.prog TStr = some (.str 0 0) := by kernel_rfl
theorem elemS : Abs.elemOf Tryd.prog 33 = some TStr := by kernel_rfl
theorem cellsS : Tryd.prog.cellsOf TStr = 1 := by kernel_rfl
theorem fitS : fitB Tryd.prog TStr 16 = true := by kernel_rfl
theorem flat_zero (m : Nat) : (List.replicate m (AV.cells (AV.str 0 0))).flatten = (List.replicate m ([] : Bytes)).map strA := by
 induction m with
 | zero => rfl
 | succ m ih => rw [List.replicate_succ, List.replicate_succ, List.flatten_cons, ih]; rfl
theorem make_strs {h : AHeap} {m : Nat} (hex : memB TStr h.ex = false) (hm : m ≤ 1000000) :
  opMakeSlice Tryd.prog h 33 (some (.int .i64 (m : Int))) (some (.int .i64 (m : Int))) = some (.val (.sl h.next 0 m 1), newH h TStr ((List.replicate m ([] : Bytes)).map strA)) := by
 have hf : bytesFit Tryd.prog TStr m = true := bytesFit_of fitS (by omega) (by omega)
 show (match Abs.elemOf Tryd.prog 33 with | some e => (match zeroA Tryd.prog e with | some z => if Nat.ble m m = true ∧ bytesFit Tryd.prog e m = true then outNewS h e (List.replicate m z.cells).flatten m (Tryd.prog.cellsOf e) else none | none => none) | none => none) = _
 simp only [elemS, zeroS]
 rw [if_pos ⟨Nat.ble_eq_true_of_le (Nat.le_refl _), hf⟩, flat_zero, cellsS]
 unfold outNewS
 rw [if_pos ⟨strA_one _, hex⟩]
 rfl
section
variable {n d p q a b c N i : Nat} {h h0 H : AHeap} {u : Bytes} {Q : ARes → AHeap → Prop} {v v1 v2 : AV} {S : List Nat} {ys T : List RowT} {s : Bool} {ts ts' full : List Tk}
theorem idx_more {m : Nat} (hk : p < m) : idxP 1 (.sl c 0 m 1) (p : Int) = some (.ptr c p) := by
 rw [idxP_sl hk, Nat.zero_add, Nat.mul_one]
theorem more_cell {ms : List Bytes} (Mx : Mem S h0 H ((c, TStr, ms.map strA) :: ys)) (hk : p < ms.length) : ldCell H (.ptr c p) = some (strA ms[p]) := by
 have := Mx.at0.1.cell (o := p) (by simpa using hk)
 rw [this, List.getElem_map]
theorem Wp.put {ms : List Bytes} {K : AHeap → R} {w : Bytes} (Mx : Mem S h0 H ((c, TStr, ms.map strA) :: ys)) (hk : p < ms.length) (hK : ∀ H', Mem S h0 H' ((c, TStr, (ms.set p w).map strA) :: ys) → Wp (K H') Q) : Wp (Abs.obind (stRow H 1 [strA w] (.ptr c p)) K) Q := by
 refine Wp.ms0 Mx (by simpa using hk) rfl (fun H' M' => hK H' ?_)
 rw [List.map_set]
 exact M'
set_option maxRecDepth 100000 in
theorem gaps_loop {k39 : AHeap → R} {gs : List (Int × Int)} {vg : AV} (hG : Slc h0.next h0 2 vg (gs.map fun g => [.int .i64 g.1, .int .i64 g.2])) (g : GrowT TTok 4 (ts.map Tk.c) v T) (hTs : ∀ x ∈ T, x ∈ ys) (htl : ts.length ≤ 10000) (hgl : gs.length ≤ 40)
  (hk : ∀ H' ms, Mem [] h0 H' ((c, TStr, ms.map strA) :: ys) → PadsI ts ms 600 → Wp (k39 H') Q) :
  ∀ (f i : Nat) (ms : List Bytes) (H : AHeap), gs.length < f + i → i ≤ gs.length → Mem [] h0 H ((c, TStr, ms.map strA) :: ys) → PadsI ts ms (14 * i) →
   Wp (law12_LexBlanks_L1 vg v (.sl c 0 (ts.length + 1) 1) k39 f (i : Int) H) Q
 | 0, i, ms, H, hf, hi, Mx, hp => by omega
 | f + 1, i, ms, H, hf, hi, Mx, hp => by
  rw [law12_LexBlanks_L1_s]
  unfold law12_LexBlanks_L1b
  have lg := hG.len
  simp only [List.length_map] at lg
  have lt := g.len
  simp only [List.length_map] at lt
  by_cases hlt : i < gs.length
  ·have hG2 := hG.tch Mx.tch (Nat.le_refl _) (by simp)
   obtain ⟨b1, _, x1, r1⟩ := hG2.row (i := i) (by simpa using hlt)
   rw [List.getElem_map] at r1
   have c1 : ldCell H (.ptr b1 (i * 2 + 0)) = some (.int .i64 gs[i].1) := row_head r1
   have c2 : ldCell H (.ptr b1 (i * 2 + 1)) = some (.int .i64 gs[i].2) := row_head (row_tail r1)
   obtain ⟨A, hA⟩ : ∃ A, A = gs[i].1 := ⟨_, rfl⟩
   obtain ⟨W, hW⟩ : ∃ W, W = gs[i].2 := ⟨_, rfl⟩
   rw [← hA] at c1
   rw [← hW] at c2
   obtain ⟨k, hkk⟩ : ∃ k, k = A.natAbs % (ts.length + 1) := ⟨_, rfl⟩
   have hk1 : k < ts.length + 1 := by rw [hkk]; exact Nat.mod_lt _ (by omega)
   have hrem : remI .i64 A ((ts.length : Int) + 1) = some (A.tmod ((ts.length : Int) + 1)) := by
    unfold remI
    rw [if_neg (by omega)]
   have habs : (A.tmod ((ts.length : Int) + 1)).natAbs = k := by
    rw [Int.natAbs_tmod, hkk]
    rfl
   obtain ⟨t, ht⟩ : ∃ t, t = A.tmod ((ts.length : Int) + 1) := ⟨_, rfl⟩
   rw [← ht] at hrem habs
   have sT := GrowT.slc' g Mx (fun x hx => List.mem_cons_of_mem _ (hTs x hx))
   have hmk : k < ms.length := by rw [hp.1]; exact hk1
   have im := idx_more (c := c) hk1
   have cm := more_cell Mx hmk
   have hml := hp.2.2 _ (List.getElem_mem hmk)
   have a1 : addS ms[k] [32] = some (ms[k] ++ [32]) := addS_val (by simp; omega)
   have a2 : addS ms[k] [9] = some (ms[k] ++ [9]) := addS_val (by simp; omega)
   have a3 : addS ms[k] [32, 35, 32, 97, 32, 34, 114, 101, 109, 97, 114, 107, 32, 123] = some (ms[k] ++ remB) := addS_val (by simp; omega)
   have a4 : addS ms[k] [32, 10, 9, 35, 32, 110, 111, 116, 104, 105, 110, 103, 10] = some (ms[k] ++ linB) := addS_val (by simp; omega)
   have next := fun (H' : AHeap) (ms' : List Bytes) (M' : Mem [] h0 H' ((c, TStr, ms'.map strA) :: ys)) (hp' : PadsI ts ms' (14 * i + 14)) => gaps_loop hG g hTs htl hgl hk f (i + 1) ms' H' (by omega) (by omega) M' (by rw [show 14 * (i + 1) = 14 * i + 14 by omega]; exact hp')
   have same := next H ms Mx (hp.mono (by omega))
   have put := fun (H' : AHeap) (p : Bytes) (hpp : p = [32] ∨ p = [9] ∨ (padE ts k = true ∧ (p = remB ∨ p = linB))) (M' : Mem [] h0 H' ((c, TStr, (ms.set k (ms[k] ++ p)).map strA) :: ys)) => next H' _ M' (hp.set hmk hpp)
   by_cases hneg : t < 0
   ·have hkt : (0 : Int) - t = (k : Int) := by omega
    rw [← hkt] at im
    by_cases hkl : k < ts.length
    ·obtain ⟨b2, x2, _, r2, _, _⟩ := tk_cells sT hkl
     rw [← hkt] at x2
     by_cases h6 : ts[k].k = 6
     ·have hE : padE ts k = true := by unfold padE; rw [List.getElem?_eq_getElem hkl]; exact beq_t h6
      by_cases w0 : andI .i64 W 3 = 0
      ·repeat (first | ((with_reducible apply Wp.obind); (with_reducible first | exact avInt_int _ _ | exact avStr_str _ | exact fldP_ptr _ _ _)) | (with_reducible first | refine Wp.join0 (fun _ _ => ?_) | refine Wp.join1 (fun _ _ => ?_)) | ((with_reducible refine Wp.lettw ?_ ?_ ?_); omega; omega) | (with_reducible refine Wp.lett ?_) | ((with_reducible apply Wp.obind); (with_reducible first | exact lg | exact x1 | exact c1 | exact lt | exact hrem | exact im | exact cm | exact c2 | exact x2 | exact r2 | exact a1)) | ((with_reducible refine Wp.ift ?_ ?_); ((with_reducible first | apply decide_eq_true | apply beq_t); omega)) | (with_reducible refine Wp.go1 (by assumption) ?_))
       refine Wp.put Mx hmk (fun H2 M2 => ?_)
       repeat (first | ((with_reducible refine Wp.lettw ?_ ?_ ?_); omega; omega) | (with_reducible refine Wp.go0 (by assumption) ?_))
       rw [show (i : Int) + 1 = ((i + 1 : Nat) : Int) by omega]
       exact put H2 [32] (.inl rfl) M2
      ·by_cases w1 : andI .i64 W 3 = 1
       ·repeat (first | ((with_reducible apply Wp.obind); (with_reducible first | exact avInt_int _ _ | exact avStr_str _ | exact fldP_ptr _ _ _)) | (with_reducible first | refine Wp.join0 (fun _ _ => ?_) | refine Wp.join1 (fun _ _ => ?_)) | ((with_reducible refine Wp.lettw ?_ ?_ ?_); omega; omega) | (with_reducible refine Wp.lett ?_) | ((with_reducible apply Wp.obind); (with_reducible first | exact lg | exact x1 | exact c1 | exact lt | exact hrem | exact im | exact cm | exact c2 | exact x2 | exact r2 | exact a2)) | ((with_reducible refine Wp.ift ?_ ?_); ((with_reducible first | apply decide_eq_true | apply beq_t); omega)) | ((with_reducible refine Wp.iff ?_ ?_); ((with_reducible apply beq_f); omega)) | (with_reducible refine Wp.go1 (by assumption) ?_))
        refine Wp.put Mx hmk (fun H2 M2 => ?_)
        repeat (first | ((with_reducible refine Wp.lettw ?_ ?_ ?_); omega; omega) | (with_reducible refine Wp.go0 (by assumption) ?_))
        rw [show (i : Int) + 1 = ((i + 1 : Nat) : Int) by omega]
        exact put H2 [9] (.inr (.inl rfl)) M2
       ·by_cases w2 : andI .i64 W 3 = 2
        ·repeat (first | ((with_reducible apply Wp.obind); (with_reducible first | exact avInt_int _ _ | exact avStr_str _ | exact fldP_ptr _ _ _)) | (with_reducible first | refine Wp.join0 (fun _ _ => ?_) | refine Wp.join1 (fun _ _ => ?_)) | ((with_reducible refine Wp.lettw ?_ ?_ ?_); omega; omega) | (with_reducible refine Wp.lett ?_) | ((with_reducible apply Wp.obind); (with_reducible first | exact lg | exact x1 | exact c1 | exact lt | exact hrem | exact im | exact cm | exact c2 | exact x2 | exact r2 | exact a3)) | ((with_reducible refine Wp.ift ?_ ?_); ((with_reducible first | apply decide_eq_true | apply beq_t); omega)) | ((with_reducible refine Wp.iff ?_ ?_); ((with_reducible apply beq_f); omega)) | (with_reducible refine Wp.go1 (by assumption) ?_))
         refine Wp.put Mx hmk (fun H2 M2 => ?_)
         repeat (first | ((with_reducible refine Wp.lettw ?_ ?_ ?_); omega; omega) | (with_reducible refine Wp.go0 (by assumption) ?_))
         rw [show (i : Int) + 1 = ((i + 1 : Nat) : Int) by omega]
         exact put H2 remB (.inr (.inr ⟨hE, .inl rfl⟩)) M2
        ·repeat (first | ((with_reducible apply Wp.obind); (with_reducible first | exact avInt_int _ _ | exact avStr_str _ | exact fldP_ptr _ _ _)) | (with_reducible first | refine Wp.join0 (fun _ _ => ?_) | refine Wp.join1 (fun _ _ => ?_)) | ((with_reducible refine Wp.lettw ?_ ?_ ?_); omega; omega) | (with_reducible refine Wp.lett ?_) | ((with_reducible apply Wp.obind); (with_reducible first | exact lg | exact x1 | exact c1 | exact lt | exact hrem | exact im | exact cm | exact c2 | exact x2 | exact r2 | exact a4)) | ((with_reducible refine Wp.ift ?_ ?_); ((with_reducible first | apply decide_eq_true | apply beq_t); omega)) | ((with_reducible refine Wp.iff ?_ ?_); ((with_reducible apply beq_f); omega)) | (with_reducible refine Wp.go1 (by assumption) ?_))
         refine Wp.put Mx hmk (fun H2 M2 => ?_)
         repeat (first | ((with_reducible refine Wp.lettw ?_ ?_ ?_); omega; omega) | (with_reducible refine Wp.go0 (by assumption) ?_))
         rw [show (i : Int) + 1 = ((i + 1 : Nat) : Int) by omega]
         exact put H2 linB (.inr (.inr ⟨hE, .inr rfl⟩)) M2
     ·have hE : padE ts k = false := by unfold padE; rw [List.getElem?_eq_getElem hkl]; exact beq_f h6
      by_cases w0 : andI .i64 W 3 = 0
      ·repeat (first | ((with_reducible apply Wp.obind); (with_reducible first | exact avInt_int _ _ | exact avStr_str _ | exact fldP_ptr _ _ _)) | (with_reducible first | refine Wp.join0 (fun _ _ => ?_) | refine Wp.join1 (fun _ _ => ?_)) | ((with_reducible refine Wp.lettw ?_ ?_ ?_); omega; omega) | (with_reducible refine Wp.lett ?_) | ((with_reducible apply Wp.obind); (with_reducible first | exact lg | exact x1 | exact c1 | exact lt | exact hrem | exact im | exact cm | exact c2 | exact x2 | exact r2 | exact a1)) | ((with_reducible refine Wp.ift ?_ ?_); ((with_reducible first | apply decide_eq_true | apply beq_t); omega)) | (with_reducible refine Wp.go1 (by assumption) ?_))
       refine Wp.put Mx hmk (fun H2 M2 => ?_)
       repeat (first | ((with_reducible refine Wp.lettw ?_ ?_ ?_); omega; omega) | (with_reducible refine Wp.go0 (by assumption) ?_))
       rw [show (i : Int) + 1 = ((i + 1 : Nat) : Int) by omega]
       exact put H2 [32] (.inl rfl) M2
      ·by_cases w1 : andI .i64 W 3 = 1
       ·repeat (first | ((with_reducible apply Wp.obind); (with_reducible first | exact avInt_int _ _ | exact avStr_str _ | exact fldP_ptr _ _ _)) | (with_reducible first | refine Wp.join0 (fun _ _ => ?_) | refine Wp.join1 (fun _ _ => ?_)) | ((with_reducible refine Wp.lettw ?_ ?_ ?_); omega; omega) | (with_reducible refine Wp.lett ?_) | ((with_reducible apply Wp.obind); (with_reducible first | exact lg | exact x1 | exact c1 | exact lt | exact hrem | exact im | exact cm | exact c2 | exact x2 | exact r2 | exact a2)) | ((with_reducible refine Wp.ift ?_ ?_); ((with_reducible first | apply decide_eq_true | apply beq_t); omega)) | ((with_reducible refine Wp.iff ?_ ?_); ((with_reducible apply beq_f); omega)) | (with_reducible refine Wp.go1 (by assumption) ?_))
        refine Wp.put Mx hmk (fun H2 M2 => ?_)
        repeat (first | ((with_reducible refine Wp.lettw ?_ ?_ ?_); omega; omega) | (with_reducible refine Wp.go0 (by assumption) ?_))
        rw [show (i : Int) + 1 = ((i + 1 : Nat) : Int) by omega]
        exact put H2 [9] (.inr (.inl rfl)) M2
       ·by_cases w2 : andI .i64 W 3 = 2
        ·repeat (first | ((with_reducible apply Wp.obind); (with_reducible first | exact avInt_int _ _ | exact fldP_ptr _ _ _)) | (with_reducible first | refine Wp.join0 (fun _ _ => ?_) | refine Wp.join1 (fun _ _ => ?_)) | ((with_reducible refine Wp.lettw ?_ ?_ ?_); omega; omega) | (with_reducible refine Wp.lett ?_) | ((with_reducible apply Wp.obind); (with_reducible first | exact lg | exact x1 | exact c1 | exact lt | exact hrem | exact c2 | exact x2 | exact r2)) | ((with_reducible refine Wp.ift ?_ ?_); ((with_reducible first | apply decide_eq_true | apply beq_t); omega)) | ((with_reducible refine Wp.iff ?_ ?_); ((with_reducible apply beq_f); omega)) | (with_reducible first | refine Wp.go0 (by assumption) ?_ | refine Wp.go1 (by assumption) ?_))
         rw [show (i : Int) + 1 = ((i + 1 : Nat) : Int) by omega]
         exact same
        ·repeat (first | ((with_reducible apply Wp.obind); (with_reducible first | exact avInt_int _ _ | exact fldP_ptr _ _ _)) | (with_reducible first | refine Wp.join0 (fun _ _ => ?_) | refine Wp.join1 (fun _ _ => ?_)) | ((with_reducible refine Wp.lettw ?_ ?_ ?_); omega; omega) | (with_reducible refine Wp.lett ?_) | ((with_reducible apply Wp.obind); (with_reducible first | exact lg | exact x1 | exact c1 | exact lt | exact hrem | exact c2 | exact x2 | exact r2)) | ((with_reducible refine Wp.ift ?_ ?_); ((with_reducible first | apply decide_eq_true | apply beq_t); omega)) | ((with_reducible refine Wp.iff ?_ ?_); ((with_reducible apply beq_f); omega)) | (with_reducible first | refine Wp.go0 (by assumption) ?_ | refine Wp.go1 (by assumption) ?_))
         rw [show (i : Int) + 1 = ((i + 1 : Nat) : Int) by omega]
         exact same
    ·have hE : padE ts k = false := by unfold padE; rw [List.getElem?_eq_none (by omega)]
     by_cases w0 : andI .i64 W 3 = 0
     ·repeat (first | ((with_reducible apply Wp.obind); (with_reducible first | exact avInt_int _ _ | exact avStr_str _ | exact fldP_ptr _ _ _)) | (with_reducible first | refine Wp.join0 (fun _ _ => ?_) | refine Wp.join1 (fun _ _ => ?_)) | ((with_reducible refine Wp.lettw ?_ ?_ ?_); omega; omega) | (with_reducible refine Wp.lett ?_) | ((with_reducible apply Wp.obind); (with_reducible first | exact lg | exact x1 | exact c1 | exact lt | exact hrem | exact im | exact cm | exact c2 | exact a1)) | ((with_reducible refine Wp.ift ?_ ?_); ((with_reducible first | apply decide_eq_true | apply beq_t); omega)) | ((with_reducible refine Wp.iff ?_ ?_); ((with_reducible apply decide_eq_false); omega)) | (with_reducible refine Wp.go1 (by assumption) ?_))
      refine Wp.put Mx hmk (fun H2 M2 => ?_)
      repeat (first | ((with_reducible refine Wp.lettw ?_ ?_ ?_); omega; omega) | (with_reducible refine Wp.go0 (by assumption) ?_))
      rw [show (i : Int) + 1 = ((i + 1 : Nat) : Int) by omega]
      exact put H2 [32] (.inl rfl) M2
     ·by_cases w1 : andI .i64 W 3 = 1
      ·repeat (first | ((with_reducible apply Wp.obind); (with_reducible first | exact avInt_int _ _ | exact avStr_str _ | exact fldP_ptr _ _ _)) | (with_reducible first | refine Wp.join0 (fun _ _ => ?_) | refine Wp.join1 (fun _ _ => ?_)) | ((with_reducible refine Wp.lettw ?_ ?_ ?_); omega; omega) | (with_reducible refine Wp.lett ?_) | ((with_reducible apply Wp.obind); (with_reducible first | exact lg | exact x1 | exact c1 | exact lt | exact hrem | exact im | exact cm | exact c2 | exact a2)) | ((with_reducible refine Wp.ift ?_ ?_); ((with_reducible first | apply decide_eq_true | apply beq_t); omega)) | ((with_reducible refine Wp.iff ?_ ?_); ((with_reducible first | apply decide_eq_false | apply beq_f); omega)) | (with_reducible refine Wp.go1 (by assumption) ?_))
       refine Wp.put Mx hmk (fun H2 M2 => ?_)
       repeat (first | ((with_reducible refine Wp.lettw ?_ ?_ ?_); omega; omega) | (with_reducible refine Wp.go0 (by assumption) ?_))
       rw [show (i : Int) + 1 = ((i + 1 : Nat) : Int) by omega]
       exact put H2 [9] (.inr (.inl rfl)) M2
      ·by_cases w2 : andI .i64 W 3 = 2
       ·repeat (first | ((with_reducible apply Wp.obind); (with_reducible first | exact avInt_int _ _ | exact fldP_ptr _ _ _)) | (with_reducible first | refine Wp.join0 (fun _ _ => ?_) | refine Wp.join1 (fun _ _ => ?_)) | ((with_reducible refine Wp.lettw ?_ ?_ ?_); omega; omega) | (with_reducible refine Wp.lett ?_) | ((with_reducible apply Wp.obind); (with_reducible first | exact lg | exact x1 | exact c1 | exact lt | exact hrem | exact c2)) | ((with_reducible refine Wp.ift ?_ ?_); ((with_reducible first | apply decide_eq_true | apply beq_t); omega)) | ((with_reducible refine Wp.iff ?_ ?_); first | (with_reducible rfl) | ((with_reducible first | apply decide_eq_false | apply beq_f); omega)) | (with_reducible first | refine Wp.go0 (by assumption) ?_ | refine Wp.go1 (by assumption) ?_))
        rw [show (i : Int) + 1 = ((i + 1 : Nat) : Int) by omega]
        exact same
       ·repeat (first | ((with_reducible apply Wp.obind); (with_reducible first | exact avInt_int _ _ | exact fldP_ptr _ _ _)) | (with_reducible first | refine Wp.join0 (fun _ _ => ?_) | refine Wp.join1 (fun _ _ => ?_)) | ((with_reducible refine Wp.lettw ?_ ?_ ?_); omega; omega) | (with_reducible refine Wp.lett ?_) | ((with_reducible apply Wp.obind); (with_reducible first | exact lg | exact x1 | exact c1 | exact lt | exact hrem | exact c2)) | ((with_reducible refine Wp.ift ?_ ?_); ((with_reducible first | apply decide_eq_true | apply beq_t); omega)) | ((with_reducible refine Wp.iff ?_ ?_); first | (with_reducible rfl) | ((with_reducible first | apply decide_eq_false | apply beq_f); omega)) | (with_reducible first | refine Wp.go0 (by assumption) ?_ | refine Wp.go1 (by assumption) ?_))
        rw [show (i : Int) + 1 = ((i + 1 : Nat) : Int) by omega]
        exact same
   ·have hkt : t = (k : Int) := by omega
    rw [hkt] at hrem
    clear ht habs hneg hkt
    by_cases hkl : k < ts.length
    ·obtain ⟨b2, x2, _, r2, _, _⟩ := tk_cells sT hkl
     by_cases h6 : ts[k].k = 6
     ·have hE : padE ts k = true := by unfold padE; rw [List.getElem?_eq_getElem hkl]; exact beq_t h6
      by_cases w0 : andI .i64 W 3 = 0
      ·repeat (first | ((with_reducible apply Wp.obind); (with_reducible first | exact avInt_int _ _ | exact avStr_str _ | exact fldP_ptr _ _ _)) | (with_reducible first | refine Wp.join0 (fun _ _ => ?_) | refine Wp.join1 (fun _ _ => ?_)) | ((with_reducible refine Wp.lettw ?_ ?_ ?_); omega; omega) | (with_reducible refine Wp.lett ?_) | ((with_reducible apply Wp.obind); (with_reducible first | exact lg | exact x1 | exact c1 | exact lt | exact hrem | exact im | exact cm | exact c2 | exact x2 | exact r2 | exact a1)) | ((with_reducible refine Wp.ift ?_ ?_); ((with_reducible first | apply decide_eq_true | apply beq_t); omega)) | ((with_reducible refine Wp.iff ?_ ?_); ((with_reducible apply decide_eq_false); omega)) | (with_reducible refine Wp.go1 (by assumption) ?_))
       refine Wp.put Mx hmk (fun H2 M2 => ?_)
       repeat (first | ((with_reducible refine Wp.lettw ?_ ?_ ?_); omega; omega) | (with_reducible refine Wp.go0 (by assumption) ?_))
       rw [show (i : Int) + 1 = ((i + 1 : Nat) : Int) by omega]
       exact put H2 [32] (.inl rfl) M2
      ·by_cases w1 : andI .i64 W 3 = 1
       ·repeat (first | ((with_reducible apply Wp.obind); (with_reducible first | exact avInt_int _ _ | exact avStr_str _ | exact fldP_ptr _ _ _)) | (with_reducible first | refine Wp.join0 (fun _ _ => ?_) | refine Wp.join1 (fun _ _ => ?_)) | ((with_reducible refine Wp.lettw ?_ ?_ ?_); omega; omega) | (with_reducible refine Wp.lett ?_) | ((with_reducible apply Wp.obind); (with_reducible first | exact lg | exact x1 | exact c1 | exact lt | exact hrem | exact im | exact cm | exact c2 | exact x2 | exact r2 | exact a2)) | ((with_reducible refine Wp.ift ?_ ?_); ((with_reducible first | apply decide_eq_true | apply beq_t); omega)) | ((with_reducible refine Wp.iff ?_ ?_); ((with_reducible first | apply decide_eq_false | apply beq_f); omega)) | (with_reducible refine Wp.go1 (by assumption) ?_))
        refine Wp.put Mx hmk (fun H2 M2 => ?_)
        repeat (first | ((with_reducible refine Wp.lettw ?_ ?_ ?_); omega; omega) | (with_reducible refine Wp.go0 (by assumption) ?_))
        rw [show (i : Int) + 1 = ((i + 1 : Nat) : Int) by omega]
        exact put H2 [9] (.inr (.inl rfl)) M2
       ·by_cases w2 : andI .i64 W 3 = 2
        ·repeat (first | ((with_reducible apply Wp.obind); (with_reducible first | exact avInt_int _ _ | exact avStr_str _ | exact fldP_ptr _ _ _)) | (with_reducible first | refine Wp.join0 (fun _ _ => ?_) | refine Wp.join1 (fun _ _ => ?_)) | ((with_reducible refine Wp.lettw ?_ ?_ ?_); omega; omega) | (with_reducible refine Wp.lett ?_) | ((with_reducible apply Wp.obind); (with_reducible first | exact lg | exact x1 | exact c1 | exact lt | exact hrem | exact im | exact cm | exact c2 | exact x2 | exact r2 | exact a3)) | ((with_reducible refine Wp.ift ?_ ?_); ((with_reducible first | apply decide_eq_true | apply beq_t); omega)) | ((with_reducible refine Wp.iff ?_ ?_); ((with_reducible first | apply decide_eq_false | apply beq_f); omega)) | (with_reducible refine Wp.go1 (by assumption) ?_))
         refine Wp.put Mx hmk (fun H2 M2 => ?_)
         repeat (first | ((with_reducible refine Wp.lettw ?_ ?_ ?_); omega; omega) | (with_reducible refine Wp.go0 (by assumption) ?_))
         rw [show (i : Int) + 1 = ((i + 1 : Nat) : Int) by omega]
         exact put H2 remB (.inr (.inr ⟨hE, .inl rfl⟩)) M2
        ·repeat (first | ((with_reducible apply Wp.obind); (with_reducible first | exact avInt_int _ _ | exact avStr_str _ | exact fldP_ptr _ _ _)) | (with_reducible first | refine Wp.join0 (fun _ _ => ?_) | refine Wp.join1 (fun _ _ => ?_)) | ((with_reducible refine Wp.lettw ?_ ?_ ?_); omega; omega) | (with_reducible refine Wp.lett ?_) | ((with_reducible apply Wp.obind); (with_reducible first | exact lg | exact x1 | exact c1 | exact lt | exact hrem | exact im | exact cm | exact c2 | exact x2 | exact r2 | exact a4)) | ((with_reducible refine Wp.ift ?_ ?_); ((with_reducible first | apply decide_eq_true | apply beq_t); omega)) | ((with_reducible refine Wp.iff ?_ ?_); ((with_reducible first | apply decide_eq_false | apply beq_f); omega)) | (with_reducible refine Wp.go1 (by assumption) ?_))
         refine Wp.put Mx hmk (fun H2 M2 => ?_)
         repeat (first | ((with_reducible refine Wp.lettw ?_ ?_ ?_); omega; omega) | (with_reducible refine Wp.go0 (by assumption) ?_))
         rw [show (i : Int) + 1 = ((i + 1 : Nat) : Int) by omega]
         exact put H2 linB (.inr (.inr ⟨hE, .inr rfl⟩)) M2
     ·have hE : padE ts k = false := by unfold padE; rw [List.getElem?_eq_getElem hkl]; exact beq_f h6
      by_cases w0 : andI .i64 W 3 = 0
      ·repeat (first | ((with_reducible apply Wp.obind); (with_reducible first | exact avInt_int _ _ | exact avStr_str _ | exact fldP_ptr _ _ _)) | (with_reducible first | refine Wp.join0 (fun _ _ => ?_) | refine Wp.join1 (fun _ _ => ?_)) | ((with_reducible refine Wp.lettw ?_ ?_ ?_); omega; omega) | (with_reducible refine Wp.lett ?_) | ((with_reducible apply Wp.obind); (with_reducible first | exact lg | exact x1 | exact c1 | exact lt | exact hrem | exact im | exact cm | exact c2 | exact x2 | exact r2 | exact a1)) | ((with_reducible refine Wp.ift ?_ ?_); ((with_reducible first | apply decide_eq_true | apply beq_t); omega)) | ((with_reducible refine Wp.iff ?_ ?_); ((with_reducible apply decide_eq_false); omega)) | (with_reducible refine Wp.go1 (by assumption) ?_))
       refine Wp.put Mx hmk (fun H2 M2 => ?_)
       repeat (first | ((with_reducible refine Wp.lettw ?_ ?_ ?_); omega; omega) | (with_reducible refine Wp.go0 (by assumption) ?_))
       rw [show (i : Int) + 1 = ((i + 1 : Nat) : Int) by omega]
       exact put H2 [32] (.inl rfl) M2
      ·by_cases w1 : andI .i64 W 3 = 1
       ·repeat (first | ((with_reducible apply Wp.obind); (with_reducible first | exact avInt_int _ _ | exact avStr_str _ | exact fldP_ptr _ _ _)) | (with_reducible first | refine Wp.join0 (fun _ _ => ?_) | refine Wp.join1 (fun _ _ => ?_)) | ((with_reducible refine Wp.lettw ?_ ?_ ?_); omega; omega) | (with_reducible refine Wp.lett ?_) | ((with_reducible apply Wp.obind); (with_reducible first | exact lg | exact x1 | exact c1 | exact lt | exact hrem | exact im | exact cm | exact c2 | exact x2 | exact r2 | exact a2)) | ((with_reducible refine Wp.ift ?_ ?_); ((with_reducible first | apply decide_eq_true | apply beq_t); omega)) | ((with_reducible refine Wp.iff ?_ ?_); ((with_reducible first | apply decide_eq_false | apply beq_f); omega)) | (with_reducible refine Wp.go1 (by assumption) ?_))
        refine Wp.put Mx hmk (fun H2 M2 => ?_)
        repeat (first | ((with_reducible refine Wp.lettw ?_ ?_ ?_); omega; omega) | (with_reducible refine Wp.go0 (by assumption) ?_))
        rw [show (i : Int) + 1 = ((i + 1 : Nat) : Int) by omega]
        exact put H2 [9] (.inr (.inl rfl)) M2
       ·by_cases w2 : andI .i64 W 3 = 2
        ·repeat (first | ((with_reducible apply Wp.obind); (with_reducible first | exact avInt_int _ _ | exact fldP_ptr _ _ _)) | (with_reducible first | refine Wp.join0 (fun _ _ => ?_) | refine Wp.join1 (fun _ _ => ?_)) | ((with_reducible refine Wp.lettw ?_ ?_ ?_); omega; omega) | (with_reducible refine Wp.lett ?_) | ((with_reducible apply Wp.obind); (with_reducible first | exact lg | exact x1 | exact c1 | exact lt | exact hrem | exact c2 | exact x2 | exact r2)) | ((with_reducible refine Wp.ift ?_ ?_); ((with_reducible first | apply decide_eq_true | apply beq_t); omega)) | ((with_reducible refine Wp.iff ?_ ?_); ((with_reducible first | apply decide_eq_false | apply beq_f); omega)) | (with_reducible first | refine Wp.go0 (by assumption) ?_ | refine Wp.go1 (by assumption) ?_))
         rw [show (i : Int) + 1 = ((i + 1 : Nat) : Int) by omega]
         exact same
        ·repeat (first | ((with_reducible apply Wp.obind); (with_reducible first | exact avInt_int _ _ | exact fldP_ptr _ _ _)) | (with_reducible first | refine Wp.join0 (fun _ _ => ?_) | refine Wp.join1 (fun _ _ => ?_)) | ((with_reducible refine Wp.lettw ?_ ?_ ?_); omega; omega) | (with_reducible refine Wp.lett ?_) | ((with_reducible apply Wp.obind); (with_reducible first | exact lg | exact x1 | exact c1 | exact lt | exact hrem | exact c2 | exact x2 | exact r2)) | ((with_reducible refine Wp.ift ?_ ?_); ((with_reducible first | apply decide_eq_true | apply beq_t); omega)) | ((with_reducible refine Wp.iff ?_ ?_); ((with_reducible first | apply decide_eq_false | apply beq_f); omega)) | (with_reducible first | refine Wp.go0 (by assumption) ?_ | refine Wp.go1 (by assumption) ?_))
         rw [show (i : Int) + 1 = ((i + 1 : Nat) : Int) by omega]
         exact same
    ·have hE : padE ts k = false := by unfold padE; rw [List.getElem?_eq_none (by omega)]
     by_cases w0 : andI .i64 W 3 = 0
     ·repeat (first | ((with_reducible apply Wp.obind); (with_reducible first | exact avInt_int _ _ | exact avStr_str _ | exact fldP_ptr _ _ _)) | (with_reducible first | refine Wp.join0 (fun _ _ => ?_) | refine Wp.join1 (fun _ _ => ?_)) | ((with_reducible refine Wp.lettw ?_ ?_ ?_); omega; omega) | (with_reducible refine Wp.lett ?_) | ((with_reducible apply Wp.obind); (with_reducible first | exact lg | exact x1 | exact c1 | exact lt | exact hrem | exact im | exact cm | exact c2 | exact a1)) | ((with_reducible refine Wp.ift ?_ ?_); ((with_reducible first | apply decide_eq_true | apply beq_t); omega)) | ((with_reducible refine Wp.iff ?_ ?_); ((with_reducible apply decide_eq_false); omega)) | (with_reducible refine Wp.go1 (by assumption) ?_))
      refine Wp.put Mx hmk (fun H2 M2 => ?_)
      repeat (first | ((with_reducible refine Wp.lettw ?_ ?_ ?_); omega; omega) | (with_reducible refine Wp.go0 (by assumption) ?_))
      rw [show (i : Int) + 1 = ((i + 1 : Nat) : Int) by omega]
      exact put H2 [32] (.inl rfl) M2
     ·by_cases w1 : andI .i64 W 3 = 1
      ·repeat (first | ((with_reducible apply Wp.obind); (with_reducible first | exact avInt_int _ _ | exact avStr_str _ | exact fldP_ptr _ _ _)) | (with_reducible first | refine Wp.join0 (fun _ _ => ?_) | refine Wp.join1 (fun _ _ => ?_)) | ((with_reducible refine Wp.lettw ?_ ?_ ?_); omega; omega) | (with_reducible refine Wp.lett ?_) | ((with_reducible apply Wp.obind); (with_reducible first | exact lg | exact x1 | exact c1 | exact lt | exact hrem | exact im | exact cm | exact c2 | exact a2)) | ((with_reducible refine Wp.ift ?_ ?_); ((with_reducible first | apply decide_eq_true | apply beq_t); omega)) | ((with_reducible refine Wp.iff ?_ ?_); ((with_reducible first | apply decide_eq_false | apply beq_f); omega)) | (with_reducible refine Wp.go1 (by assumption) ?_))
       refine Wp.put Mx hmk (fun H2 M2 => ?_)
       repeat (first | ((with_reducible refine Wp.lettw ?_ ?_ ?_); omega; omega) | (with_reducible refine Wp.go0 (by assumption) ?_))
       rw [show (i : Int) + 1 = ((i + 1 : Nat) : Int) by omega]
       exact put H2 [9] (.inr (.inl rfl)) M2
      ·by_cases w2 : andI .i64 W 3 = 2
       ·repeat (first | ((with_reducible apply Wp.obind); (with_reducible first | exact avInt_int _ _ | exact fldP_ptr _ _ _)) | (with_reducible first | refine Wp.join0 (fun _ _ => ?_) | refine Wp.join1 (fun _ _ => ?_)) | ((with_reducible refine Wp.lettw ?_ ?_ ?_); omega; omega) | (with_reducible refine Wp.lett ?_) | ((with_reducible apply Wp.obind); (with_reducible first | exact lg | exact x1 | exact c1 | exact lt | exact hrem | exact c2)) | ((with_reducible refine Wp.ift ?_ ?_); ((with_reducible first | apply decide_eq_true | apply beq_t); omega)) | ((with_reducible refine Wp.iff ?_ ?_); first | (with_reducible rfl) | ((with_reducible first | apply decide_eq_false | apply beq_f); omega)) | (with_reducible first | refine Wp.go0 (by assumption) ?_ | refine Wp.go1 (by assumption) ?_))
        rw [show (i : Int) + 1 = ((i + 1 : Nat) : Int) by omega]
        exact same
       ·repeat (first | ((with_reducible apply Wp.obind); (with_reducible first | exact avInt_int _ _ | exact fldP_ptr _ _ _)) | (with_reducible first | refine Wp.join0 (fun _ _ => ?_) | refine Wp.join1 (fun _ _ => ?_)) | ((with_reducible refine Wp.lettw ?_ ?_ ?_); omega; omega) | (with_reducible refine Wp.lett ?_) | ((with_reducible apply Wp.obind); (with_reducible first | exact lg | exact x1 | exact c1 | exact lt | exact hrem | exact c2)) | ((with_reducible refine Wp.ift ?_ ?_); ((with_reducible first | apply decide_eq_true | apply beq_t); omega)) | ((with_reducible refine Wp.iff ?_ ?_); first | (with_reducible rfl) | ((with_reducible first | apply decide_eq_false | apply beq_f); omega)) | (with_reducible first | refine Wp.go0 (by assumption) ?_ | refine Wp.go1 (by assumption) ?_))
        rw [show (i : Int) + 1 = ((i + 1 : Nat) : Int) by omega]
        exact same
  ·repeat (first | (with_reducible refine Wp.lett ?_) | ((with_reducible apply Wp.obind); (with_reducible exact lg)) | ((with_reducible refine Wp.iff ?_ ?_); ((with_reducible apply decide_eq_false); omega)))
   rw [show i = gs.length by omega] at hp
   exact hk _ ms Mx (hp.mono (by omega))
end
noncomputable def world3 (n d : Nat) : CallF := orC (callOf [(10, ref12_Same_fn (world n d) n)]) (world n d)
theorem world3_ok (n d : Nat) : SaysAll Tryd.prog (world3 n d) := orC_ok (callOf_cons (ref12_Same_holds (world_ok n d) n) callOf_nil) (world_ok n d)
theorem w3_same {n d : Nat} {v w : AV} {h : AHeap} {x : ARes × AHeap} (e : ref12_Same (world n d) n v w h = some x) : world3 n d 10 [v, w] h = some x := by
 have e2 : ref12_Same_fn (world n d) n [v, w] h = some x := by rw [ref12_Same_fn_eq]; exact e
 show (match ref12_Same_fn (world n d) n [v, w] h with
  | some r => some r
  | none => _) = some x
 rw [e2]
theorem w3_lex (n d : Nat) (args : List AV) (h : AHeap) : world3 n d 8 args h = world n d 8 args h := rfl
theorem w3_works (n d : Nat) (args : List AV) (h : AHeap) : world3 n d 6 args h = world n d 6 args h := rfl
theorem w3_word (n d : Nat) (args : List AV) (h : AHeap) : world3 n d 11 args h = world n d 11 args h := rfl
theorem same3_w {n d : Nat} {H : AHeap} {v1 v2 : AV} {ts ts' : List Tk} (s1 : Slc H.next H 4 v1 (ts.map Tk.c)) (s2 : Slc H.next H 4 v2 (ts'.map Tk.c)) (hS : SameT ts ts') (hl : ts.length ≤ 100000) (hn : 200000 < n) : world3 n d 10 [v1, v2] H = some (.ret (.bool true), H) := w3_same (same_p (d := d) s1 s2 hS hl hn)
section
variable {n d p q a b c N i : Nat} {h h0 H : AHeap} {u : Bytes} {Q : ARes → AHeap → Prop} {v v1 v2 : AV} {S : List Nat} {ys T : List RowT} {s : Bool} {ts ts' full : List Tk} {ms : List Bytes}
theorem asm_len : ∀ {ts : List Tk} {ms : List Bytes} {s : Bool}, (∀ x ∈ ts, x.w.length ≤ 3000) → (∀ m ∈ ms, m.length ≤ 3000) → (asm s ts ms).length ≤ 6002 * (ts.length + 1)
 | [], [m], _, _, hm => by
  have := hm m (List.mem_cons_self ..)
  unfold asm
  simp only [List.length_nil]
  omega
 | [], [], _, _, _ => by unfold asm; simp
 | [], _ :: _ :: _, _, _, _ => by unfold asm; simp
 | _ :: _, [], _, _, _ => by unfold asm; simp
 | x :: r, m :: ms, s, hx, hm => by
  have h1 := hx x (List.mem_cons_self ..)
  have h2 := hm m (List.mem_cons_self ..)
  have i1 := asm_len (ts := r) (ms := ms) (s := true) (fun y hy => hx y (List.mem_cons_of_mem _ hy)) (fun y hy => hm y (List.mem_cons_of_mem _ hy))
  have i2 := asm_len (ts := r) (ms := ms) (s := false) (fun y hy => hx y (List.mem_cons_of_mem _ hy)) (fun y hy => hm y (List.mem_cons_of_mem _ hy))
  have e0 : (if s = true ∧ x.k ≠ 6 then [32] else [] : Bytes).length ≤ 1 := by split <;> simp
  have e1 : (if x.k = 6 then 10 :: asm false r ms else x.w ++ asm true r ms).length ≤ 3000 + 6002 * (r.length + 1) := by
   split
   ·rw [List.length_cons]
    omega
   ·rw [List.length_append]
    omega
  unfold asm
  rw [List.length_append, List.length_append, List.length_cons]
  omega
theorem places_w {s : Bool} {p : Nat} (hu : u.length ≤ 2048) (h : PlacesT u s p ts) : ∀ x ∈ ts, x.w.length ≤ 3000 := by
 induction h with
 | nil => simp
 | @tok s p q' x rest g hq ht r ih =>
  intro y hy
  rcases List.mem_cons.1 hy with rfl | hy
  ·obtain ⟨_, _, _, h4, _, h6, _⟩ := token_word hq ht
   show (wordQ y.k y.t y.m).length ≤ 3000
   rw [← h6, List.length_take, List.length_drop]
   omega
  ·exact ih y hy
 | @eol p q rest g hq he r ih =>
  intro y hy
  rcases List.mem_cons.1 hy with rfl | hy
  ·show (wordQ 6 [] 0).length ≤ 3000
   unfold wordQ
   simp
  ·exact ih y hy
set_option maxRecDepth 100000 in
theorem asm_loop {k45 : Bytes → AHeap → R} (Mx : Mem S h0 H ((c, TStr, ms.map strA) :: ys)) (hs : Slc H.next H 4 v (full.map Tk.c)) (hms : ms.length = full.length + 1) (hok : ∀ x ∈ full, TokOk x) (hn : 200000 < n) (hP : HasPow H) (hxB : memB TBld H.ex = true) (hx8 : memB TU8 H.ex = false) (hl : full.length ≤ 10000) (htot : (asm false full ms).length ≤ 100000000)
  (hk : ∀ acc, acc ++ ms[full.length] = asm false full ms → Wp (k45 acc H) Q) :
  ∀ (rest : List Tk) (f i : Nat) (acc : Bytes) (s : Bool), full.drop i = rest → i ≤ full.length → rest.length < f → acc ++ asm s rest (ms.drop i) = asm false full ms → (s = false → i = 0 ∨ ∃ x : Tk, full[i - 1]? = some x ∧ x.k = 6) → (s = true → 0 < i ∧ ∃ x : Tk, full[i - 1]? = some x ∧ x.k ≠ 6) →
   Wp (law12_LexBlanks_L0 (world3 n (d + 7)) v (.sl c 0 (full.length + 1) 1) k45 f acc (i : Int) H) Q
 | _, 0, i, acc, s, _, _, hf, _, _, _ => by omega
 | [], f + 1, i, acc, s, hd, hi, hf, ha, hp1, hp2 => by
  rw [law12_LexBlanks_L0_s]
  unfold law12_LexBlanks_L0b
  have hle := hs.len
  simp only [List.length_map] at hle
  have hil : i = full.length := by
   have := congrArg List.length hd
   rw [List.length_drop] at this
   simp at this
   omega
  subst hil
  rw [List.drop_eq_getElem_cons (by omega), List.drop_eq_nil_of_le (by omega)] at ha
  have e : asm s [] [ms[full.length]] = ms[full.length] := by unfold asm; rfl
  rw [e] at ha
  repeat (first | (with_reducible refine Wp.lett ?_) | ((with_reducible apply Wp.obind); (with_reducible exact hle)) | ((with_reducible refine Wp.iff ?_ ?_); ((with_reducible apply decide_eq_false); omega)))
  exact hk acc ha
 | x :: rest, f + 1, i, acc, s, hd, hi, hf, ha, hp1, hp2 => by
  rw [law12_LexBlanks_L0_s]
  unfold law12_LexBlanks_L0b
  have lt := hs.len
  simp only [List.length_map] at lt
  have hil : i < full.length := by
   have := congrArg List.length hd
   rw [List.length_drop] at this
   simp at this
   omega
  have hli : full[i] = x ∧ full.drop (i + 1) = rest := by
   rw [List.drop_eq_getElem_cons hil] at hd
   exact ⟨(List.cons.inj hd).1, (List.cons.inj hd).2⟩
  have hrl : rest.length + (i + 1) = full.length := by
   rw [← hli.2, List.length_drop]
   omega
  obtain ⟨b, x1, r1, r2, _, _⟩ := tk_cells hs hil
  rw [hli.1] at r1 r2
  have hx := hok x (by rw [← hli.1]; exact List.getElem_mem hil)
  have hlast : full[i + 1 - 1]? = some x := by rw [Nat.add_sub_cancel, List.getElem?_eq_getElem hil, hli.1]
  have him : i < ms.length := by omega
  have im := idx_more (c := c) (p := i) (m := full.length + 1) (by omega)
  have cm := more_cell Mx him
  rw [List.drop_eq_getElem_cons him] at ha
  obtain ⟨m, hm⟩ : ∃ m, m = ms[i] := ⟨_, rfl⟩
  rw [← hm] at ha cm
  have htot2 := htot
  rw [← ha] at htot2
  by_cases h6 : x.k = 6
  ·have ew : asm s (x :: rest) (m :: ms.drop (i + 1)) = m ++ 10 :: asm false rest (ms.drop (i + 1)) := by
    conv => lhs; unfold asm
    rw [if_neg (by simp [h6]), if_pos h6, List.nil_append]
   rw [ew] at ha htot2
   have hrest := asm_loop Mx hs hms hok hn hP hxB hx8 hl htot hk rest f (i + 1) (acc ++ m ++ [10]) false hli.2 (by omega) (by simp at hf; omega) (by rw [← ha]; simp) (fun _ => .inr ⟨x, hlast, h6⟩) (fun hh => by cases hh)
   rw [h6] at r2
   have a1 : addS acc m = some (acc ++ m) := addS_val (by simp at htot2; omega)
   have a2 : addS (acc ++ m) [10] = some (acc ++ m ++ [10]) := addS_val (by simp at htot2 ⊢; omega)
   by_cases h0 : 0 < i
   ·repeat (first | (with_reducible refine Wp.join1 (fun _ _ => ?_)) | ((with_reducible refine Wp.lettw ?_ ?_ ?_); omega; omega) | (with_reducible refine Wp.lett ?_) | ((with_reducible apply Wp.obind); (with_reducible first | exact lt | exact x1 | exact r2 | exact im | exact cm | exact a1 | exact a2 | exact avInt_int _ _ | exact avStr_str _ | exact fldP_ptr _ _ _)) | ((with_reducible refine Wp.ift ?_ ?_); ((with_reducible first | apply decide_eq_true | apply bne_t | apply beq_t); omega)) | ((with_reducible refine Wp.iff ?_ ?_); first | (with_reducible rfl) | ((with_reducible apply bne_f); omega)) | (with_reducible refine Wp.go1 (by assumption) ?_))
    rw [show (i : Int) + 1 = ((i + 1 : Nat) : Int) by omega]
    exact hrest
   ·repeat (first | (with_reducible refine Wp.join1 (fun _ _ => ?_)) | ((with_reducible refine Wp.lettw ?_ ?_ ?_); omega; omega) | (with_reducible refine Wp.lett ?_) | ((with_reducible apply Wp.obind); (with_reducible first | exact lt | exact x1 | exact r2 | exact im | exact cm | exact a1 | exact a2 | exact avInt_int _ _ | exact avStr_str _ | exact fldP_ptr _ _ _)) | ((with_reducible refine Wp.ift ?_ ?_); ((with_reducible first | apply decide_eq_true | apply beq_t); omega)) | ((with_reducible refine Wp.iff ?_ ?_); first | (with_reducible rfl) | ((with_reducible apply decide_eq_false); omega)) | (with_reducible refine Wp.go1 (by assumption) ?_))
    rw [show (i : Int) + 1 = ((i + 1 : Nat) : Int) by omega]
    exact hrest
  ·have hw := lword_w (n := n) (d := d) (h := H) (p := x.a) (k := x.k) (m := x.m) (t := x.t) hx.1 (by have := hx.2; omega) (by have := hx.2; omega) (by omega) hP hxB hx8
   have hw := (w3_word n (d + 7) _ _).trans hw
   have hwl : (wordQ x.k x.t x.m).length = x.w.length := rfl
   cases s with
   | false =>
    have ew : asm false (x :: rest) (m :: ms.drop (i + 1)) = m ++ (x.w ++ asm true rest (ms.drop (i + 1))) := by
     conv => lhs; unfold asm
     rw [if_neg (by simp), if_neg h6, List.nil_append]
    rw [ew] at ha htot2
    have hrest := asm_loop Mx hs hms hok hn hP hxB hx8 hl htot hk rest f (i + 1) (acc ++ m ++ x.w) true hli.2 (by omega) (by simp at hf; omega) (by rw [← ha]; simp) (fun hh => by cases hh) (fun _ => ⟨by omega, x, hlast, h6⟩)
    have a1 : addS acc m = some (acc ++ m) := addS_val (by simp at htot2; omega)
    have a2 : addS (acc ++ m) (wordQ x.k x.t x.m) = some (acc ++ m ++ x.w) := addS_val (by simp at htot2 ⊢; omega)
    rcases hp1 rfl with h0 | ⟨y, e, hy⟩
    ·subst h0
     repeat (first | (with_reducible refine Wp.join1 (fun _ _ => ?_)) | ((with_reducible refine Wp.lettw ?_ ?_ ?_); omega; omega) | (with_reducible refine Wp.lett ?_) | ((with_reducible apply Wp.obind); (with_reducible first | exact lt | exact x1 | exact r2 | exact r1 | exact im | exact cm | exact a1 | exact a2 | exact avInt_int _ _ | exact avStr_str _ | exact fldP_ptr _ _ _)) | ((with_reducible refine Wp.ift ?_ ?_); ((with_reducible first | apply decide_eq_true | apply beq_t); omega)) | ((with_reducible refine Wp.iff ?_ ?_); first | (with_reducible rfl) | ((with_reducible first | apply decide_eq_false | apply beq_f); omega)) | ((with_reducible apply Wp.callK); (with_reducible exact hw)) | (with_reducible refine Wp.go1 (by assumption) ?_))
     rw [show ((0 : Nat) : Int) + 1 = ((0 + 1 : Nat) : Int) by omega]
     exact hrest
    ·obtain ⟨hj, ej⟩ := List.getElem?_eq_some_iff.1 e
     obtain ⟨b2, x2, _, r4, _, _⟩ := tk_cells hs hj
     rw [ej, hy] at r4
     by_cases h0 : 0 < i
     ·rw [← show (i : Int) - 1 = ((i - 1 : Nat) : Int) by omega] at x2
      repeat (first | (with_reducible refine Wp.join1 (fun _ _ => ?_)) | ((with_reducible refine Wp.lettw ?_ ?_ ?_); omega; omega) | (with_reducible refine Wp.lett ?_) | ((with_reducible apply Wp.obind); (with_reducible first | exact lt | exact x1 | exact r2 | exact r1 | exact im | exact cm | exact a1 | exact a2 | exact x2 | exact r4 | exact avInt_int _ _ | exact avStr_str _ | exact fldP_ptr _ _ _)) | ((with_reducible refine Wp.ift ?_ ?_); ((with_reducible first | apply decide_eq_true | apply bne_t | apply beq_t); omega)) | ((with_reducible refine Wp.iff ?_ ?_); ((with_reducible first | apply bne_f | apply beq_f); omega)) | ((with_reducible apply Wp.callK); (with_reducible exact hw)) | (with_reducible refine Wp.go1 (by assumption) ?_))
      rw [show (i : Int) + 1 = ((i + 1 : Nat) : Int) by omega]
      exact hrest
     ·repeat (first | (with_reducible refine Wp.join1 (fun _ _ => ?_)) | ((with_reducible refine Wp.lettw ?_ ?_ ?_); omega; omega) | (with_reducible refine Wp.lett ?_) | ((with_reducible apply Wp.obind); (with_reducible first | exact lt | exact x1 | exact r2 | exact r1 | exact im | exact cm | exact a1 | exact a2 | exact avInt_int _ _ | exact avStr_str _ | exact fldP_ptr _ _ _)) | ((with_reducible refine Wp.ift ?_ ?_); ((with_reducible first | apply decide_eq_true | apply beq_t); omega)) | ((with_reducible refine Wp.iff ?_ ?_); first | (with_reducible rfl) | ((with_reducible first | apply decide_eq_false | apply beq_f); omega)) | ((with_reducible apply Wp.callK); (with_reducible exact hw)) | (with_reducible refine Wp.go1 (by assumption) ?_))
      rw [show (i : Int) + 1 = ((i + 1 : Nat) : Int) by omega]
      exact hrest
   | true =>
    have ew : asm true (x :: rest) (m :: ms.drop (i + 1)) = [32] ++ (m ++ (x.w ++ asm true rest (ms.drop (i + 1)))) := by
     conv => lhs; unfold asm
     rw [if_pos ⟨rfl, h6⟩, if_neg h6]
    rw [ew] at ha htot2
    have hrest := asm_loop Mx hs hms hok hn hP hxB hx8 hl htot hk rest f (i + 1) (acc ++ [32] ++ m ++ x.w) true hli.2 (by omega) (by simp at hf; omega) (by rw [← ha]; simp) (fun hh => by cases hh) (fun _ => ⟨by omega, x, hlast, h6⟩)
    obtain ⟨h0, y, e, hy⟩ := hp2 rfl
    obtain ⟨hj, ej⟩ := List.getElem?_eq_some_iff.1 e
    obtain ⟨b2, x2, _, r4, _, _⟩ := tk_cells hs hj
    rw [ej] at r4
    rw [← show (i : Int) - 1 = ((i - 1 : Nat) : Int) by omega] at x2
    have a0 : addS acc [32] = some (acc ++ [32]) := addS_val (by simp at htot2 ⊢; omega)
    have a1 : addS (acc ++ [32]) m = some (acc ++ [32] ++ m) := addS_val (by simp at htot2 ⊢; omega)
    have a2 : addS (acc ++ [32] ++ m) (wordQ x.k x.t x.m) = some (acc ++ [32] ++ m ++ x.w) := addS_val (by simp at htot2 ⊢; omega)
    repeat (first | (with_reducible refine Wp.join1 (fun _ _ => ?_)) | ((with_reducible refine Wp.lettw ?_ ?_ ?_); omega; omega) | (with_reducible refine Wp.lett ?_) | ((with_reducible apply Wp.obind); (with_reducible first | exact lt | exact x1 | exact r2 | exact r1 | exact im | exact cm | exact a0 | exact a1 | exact a2 | exact x2 | exact r4 | exact avInt_int _ _ | exact avStr_str _ | exact fldP_ptr _ _ _)) | ((with_reducible refine Wp.ift ?_ ?_); ((with_reducible first | apply decide_eq_true | apply bne_t | apply beq_t); omega)) | ((with_reducible refine Wp.iff ?_ ?_); ((with_reducible apply beq_f); omega)) | ((with_reducible apply Wp.callK); (with_reducible exact hw)) | (with_reducible refine Wp.go1 (by assumption) ?_))
    rw [show (i : Int) + 1 = ((i + 1 : Nat) : Int) by omega]
    exact hrest
theorem lex_asm (hpl : PlacesT u false 0 ts) (hp : Pads ts ms) (hlen : (asm false ts ms).length ≤ 2048) : ∃ ts' q', SameT ts' ts ∧ lexAll (asm false ts ms) = .ok (ts'.map Tk.c) q' := by
 obtain ⟨ts', hs, hR⟩ := asm_ref hpl ms [] [] hp
 have h1 := lexAll_to (u := asm false ts ms) hlen
 have h2 := ref_one h1 hR
 cases hL : lexAll (asm false ts ms) with
 | bad e' q' => rw [hL] at h2; cases h2
 | ok l' q' =>
  rw [hL] at h2
  cases h2
  exact ⟨ts', q', hs, rfl⟩
end
theorem PadsI.zero (ts : List Tk) : PadsI ts (List.replicate (ts.length + 1) []) (14 * 0) := by
 refine ⟨by simp, fun j m hj => ?_, fun m hm => ?_⟩
 ·rw [List.getElem?_replicate] at hj
  split at hj
  ·cases hj
   exact Pad.nil _
  ·cases hj
 ·rw [List.mem_replicate] at hm
  rw [hm.2]
  simp
theorem lex_long {n d : Nat} {h : AHeap} {u : Bytes} (hl : 2048 < u.length) : ∃ h', world n (d + 14) 8 [strA u] h = some (.ret (.tup [.nsl, .agg [.int .i64 3, .int .i64 2048]]), h') ∧ Mem [] h h' [] := by
 apply Wp.ex
 rw [w_lex_Lex]
 refine Wp.gc' ?_
 suffices hK : Wp (lex_Lex (world n (d + 13)) n u h) fun r h' => r = .ret (.tup [.nsl, .agg [.int .i64 3, .int .i64 2048]]) ∧ Mem [] h h' [] from hK.mono fun r h' q => ⟨q, fun _ => ⟨q.1, Mem.nil [] h⟩⟩
 unfold lex_Lex
 have Mx := Mem.nil [] h
 have lu := lenS_nat u
 repeat (first | ((with_reducible apply Wp.lr0 Mx); rfl) | ((with_reducible apply Wp.sa0 Mx); rfl; rfl; (rfl); intro _ Mz; clear Mx; have Mx := Mz; clear Mz) | ((with_reducible apply Wp.mnew Mx); intro _ Mz; clear Mx; have Mx := Mz; clear Mz) | (with_reducible refine Wp.lett ?_) | ((with_reducible refine Wp.ift ?_ ?_); ((with_reducible apply decide_eq_true); omega)) | rw [newP_eq])
 exact Wp.ret ⟨rfl, Mx.pop⟩
theorem gapT : Tryd.prog.underlying 32 = some (.slice 35) := by kernel_rfl
theorem cellsG : Tryd.prog.cellsOf 35 = 2 := by kernel_rfl
section
variable {N n : Nat} {h : AHeap} {li : List AV}
theorem gap_row (hp : Plain Tryd.prog N h (n + 2) 35 li) : ∃ g : Int × Int, li = [.int .i64 g.1, .int .i64 g.2] ∧ True := by
 obtain ⟨l0, l1, rfl, q0, q1⟩ := hp.struct2 Tryd.underlying35
 obtain ⟨z0, rfl, _⟩ := Plain.int (k := .i64) Tryd.underlying3 q0
 obtain ⟨z1, rfl, _⟩ := Plain.int (k := .i64) Tryd.underlying3 q1
 exact ⟨(z0, z1), rfl, trivial⟩
end
set_option maxRecDepth 100000 in
theorem lexBlanks_says (h : AHeap) (hX : h.ex = [52]) (hPw : HasPow h) (xs : List AV) (hP : ArgsP Tryd.prog h.next h 12 [9, 32] xs) : ∃ h', Says Tryd.prog 4 xs h (.ret (.bool true)) h' := by
 obtain ⟨_, _, rfl, hp0, hP⟩ := args_cons hP
 obtain ⟨vg, _, rfl, hp1, hP⟩ := args_cons hP
 obtain rfl := args0 hP
 obtain ⟨u, rfl, hs⟩ := hp0.str Tryd.underlying9
 obtain ⟨ls, hG, _, hls⟩ := hp1.slice gapT
 rw [cellsG] at hG
 obtain ⟨gs, rfl, _⟩ := map_of (f := fun g : Int × Int => [AV.int .i64 g.1, AV.int .i64 g.2]) (Q := fun _ => True) ls (fun li hli => gap_row (hls li hli))
 obtain ⟨n, hn⟩ : ∃ n, n = 1000000 := ⟨_, rfl⟩
 suffices hK : Wp (law12_LexBlanks (world3 n 14) n u vg h) fun r _ => r = .ret (.bool true) by
  obtain ⟨_, h', e, rfl⟩ := hK
  exact ⟨h', law12_LexBlanks_ok (world3_ok n 14) e⟩
 unfold law12_LexBlanks
 have lu := lenS_nat u
 have lg := hG.len
 simp only [List.length_map] at lg
 have hwk := (w3_works n 14 _ _).trans (works_w n 13 h)
 have Mx := Mem.nil [] h
 by_cases hu1 : 2048 < u.length
 ·obtain ⟨h1, e1, M1⟩ := lex_long (n := n) (d := 0) (h := h) hu1
  have e1 := (w3_lex n 14 _ _).trans e1
  clear Mx
  have Mx := M1
  repeat (first | ((with_reducible apply Wp.obind); (with_reducible first | exact avInt_int _ _ | exact avBool_bool _)) | ((with_reducible apply Wp.ld0 Mx); rfl) | ((with_reducible apply Wp.sa0 Mx); rfl; rfl; (rfl); intro _ Mz; clear Mx; have Mx := Mz; clear Mz) | ((with_reducible apply Wp.mnew Mx); intro _ Mz; clear Mx; have Mx := Mz; clear Mz) | (with_reducible refine Wp.join1 (fun _ _ => ?_)) | (with_reducible refine Wp.lett ?_) | ((with_reducible apply Wp.obind); (with_reducible first | exact avAgg_agg _ | exact extT_0 _ _ | exact extT_1 _ _ _)) | ((with_reducible refine Wp.ift ?_ ?_); first | (with_reducible rfl) | ((with_reducible apply bne_t); omega)) | ((with_reducible refine Wp.iff ?_ ?_); (with_reducible exact Bool.not_true)) | ((with_reducible apply Wp.callN); (with_reducible first | exact hwk | exact e1)) | (with_reducible refine Wp.go1 (by assumption) ?_) | rw [newP_eq])
  exact Wp.ret rfl
 ·have hp := lex_w (n := n) (d := 0) (h := h) (u := u) (by omega) (by omega) (by rw [hX]; rfl) (by rw [hX]; rfl) (by rw [hX]; rfl)
  cases hQ : lexAll u with
  | bad e q =>
   rw [hQ] at hp
   obtain ⟨hne, h1, e1, M1⟩ := hp
   have e1 := (w3_lex n 14 _ _).trans e1
   clear Mx
   have Mx := M1
   repeat (first | ((with_reducible apply Wp.obind); (with_reducible first | exact avInt_int _ _ | exact avBool_bool _)) | ((with_reducible apply Wp.ld0 Mx); rfl) | ((with_reducible apply Wp.sa0 Mx); rfl; rfl; (rfl); intro _ Mz; clear Mx; have Mx := Mz; clear Mz) | ((with_reducible apply Wp.mnew Mx); intro _ Mz; clear Mx; have Mx := Mz; clear Mz) | (with_reducible refine Wp.join1 (fun _ _ => ?_)) | (with_reducible refine Wp.lett ?_) | ((with_reducible apply Wp.obind); (with_reducible first | exact avAgg_agg _ | exact extT_0 _ _ | exact extT_1 _ _ _)) | ((with_reducible refine Wp.ift ?_ ?_); first | (with_reducible rfl) | ((with_reducible apply bne_t); omega)) | ((with_reducible refine Wp.iff ?_ ?_); (with_reducible exact Bool.not_true)) | ((with_reducible apply Wp.callN); (with_reducible first | exact hwk | exact e1)) | (with_reducible refine Wp.go1 (by assumption) ?_) | rw [newP_eq])
   exact Wp.ret rfl
  | ok l q =>
   rw [hQ] at hp
   obtain ⟨h1, v1, T1, e1, g1, M1⟩ := hp
   have e1 := (w3_lex n 14 _ _).trans e1
   have hu : u.length ≤ 2048 := by omega
   obtain ⟨ts, el, pl⟩ := places_t (lexAll_places hu hQ)
   have hll : l.length ≤ 3000 := by
    unfold lexAll at hQ
    rw [if_neg (by omega)] at hQ
    have := lex_le _ _ _ _ _ hQ (by omega)
    simp at this
    omega
   have htl : ts.length ≤ 3000 := by
    have := congrArg List.length el
    rw [List.length_map] at this
    omega
   have hok := places_ok hu pl
   have hwl := places_w hu pl
   rw [el] at g1
   have le1 := g1.len
   simp only [List.length_map] at le1
   clear Mx
   have Mx := M1
   by_cases h1000 : 1000 < u.length
   ·repeat (first | ((with_reducible apply Wp.obind); (with_reducible first | exact avInt_int _ _ | exact avBool_bool _)) | ((with_reducible apply Wp.ld0 Mx); rfl) | ((with_reducible apply Wp.sa0 Mx); rfl; rfl; (rfl); intro _ Mz; clear Mx; have Mx := Mz; clear Mz) | ((with_reducible apply Wp.mnew Mx); intro _ Mz; clear Mx; have Mx := Mz; clear Mz) | (with_reducible refine Wp.join1 (fun _ _ => ?_)) | (with_reducible refine Wp.lett ?_) | ((with_reducible apply Wp.obind); (with_reducible first | exact avAgg_agg _ | exact extT_0 _ _ | exact extT_1 _ _ _)) | ((with_reducible refine Wp.ift ?_ ?_); first | (with_reducible rfl) | ((with_reducible first | apply decide_eq_true | apply bne_t); omega)) | ((with_reducible refine Wp.iff ?_ ?_); first | (with_reducible exact Bool.not_true) | ((with_reducible apply bne_f); omega)) | ((with_reducible apply Wp.callN); (with_reducible first | exact hwk | exact e1)) | (with_reducible refine Wp.go1 (by assumption) ?_) | rw [newP_eq])
    exact Wp.ret rfl
   ·by_cases h40 : 40 < gs.length
    ·repeat (first | ((with_reducible apply Wp.obind); (with_reducible first | exact avInt_int _ _ | exact avBool_bool _)) | ((with_reducible apply Wp.ld0 Mx); rfl) | ((with_reducible apply Wp.sa0 Mx); rfl; rfl; (rfl); intro _ Mz; clear Mx; have Mx := Mz; clear Mz) | ((with_reducible apply Wp.mnew Mx); intro _ Mz; clear Mx; have Mx := Mz; clear Mz) | (with_reducible refine Wp.join1 (fun _ _ => ?_)) | (with_reducible refine Wp.lett ?_) | ((with_reducible apply Wp.obind); (with_reducible first | exact lg | exact avAgg_agg _ | exact extT_0 _ _ | exact extT_1 _ _ _)) | ((with_reducible refine Wp.ift ?_ ?_); ((with_reducible first | apply decide_eq_true | apply bne_t); omega)) | ((with_reducible refine Wp.iff ?_ ?_); first | (with_reducible exact Bool.not_true) | ((with_reducible first | apply decide_eq_false | apply bne_f); omega)) | ((with_reducible apply Wp.callN); (with_reducible first | exact hwk | exact e1)) | (with_reducible refine Wp.go1 (by assumption) ?_) | rw [newP_eq])
     exact Wp.ret rfl
    ·repeat (first | ((with_reducible apply Wp.obind); (with_reducible first | exact avInt_int _ _ | exact avBool_bool _)) | ((with_reducible apply Wp.ld0 Mx); rfl) | ((with_reducible apply Wp.sa0 Mx); rfl; rfl; (rfl); intro _ Mz; clear Mx; have Mx := Mz; clear Mz) | ((with_reducible apply Wp.mnew Mx); intro _ Mz; clear Mx; have Mx := Mz; clear Mz) | (with_reducible refine Wp.join1 (fun _ _ => ?_)) | ((with_reducible refine Wp.lettw ?_ ?_ ?_); omega; omega) | (with_reducible refine Wp.lett ?_) | ((with_reducible apply Wp.obind); (with_reducible first | exact lg | exact le1 | exact avAgg_agg _ | exact extT_0 _ _ | exact extT_1 _ _ _)) | ((with_reducible refine Wp.iff ?_ ?_); first | (with_reducible exact Bool.not_true) | ((with_reducible first | apply decide_eq_false | apply bne_f); omega)) | ((with_reducible apply Wp.callN); (with_reducible first | exact hwk | exact e1)) | (with_reducible refine Wp.go1 (by assumption) ?_) | rw [newP_eq])
     have hmk := fun (H : AHeap) (hH : H.ex = h.ex) => make_strs (h := H) (m := ts.length + 1) (by rw [hH, hX]; rfl) (by omega)
     refine Wp.outK (hmk _ Mx.ex) ?_
     have M5 := Mx.newH TStr ((List.replicate (ts.length + 1) ([] : Bytes)).map strA)
     clear Mx
     have Mx := M5
     clear M5
     repeat ((with_reducible refine Wp.join0 (fun _ _ => ?_)))
     have p0 := PadsI.zero ts
     refine gaps_loop hG g1 (fun x hx => by simp [hx]) (by omega) (by omega) ?_ n 0 _ _ (by omega) (by omega) Mx p0
     intro H2 ms M2 hp2
     clear Mx
     have Mx := M2
     clear M2
     repeat (first | (with_reducible refine Wp.join1 (fun _ _ => ?_)) | (with_reducible refine Wp.go0 (by assumption) ?_))
     have sl1 := GrowT.slc' g1 Mx (fun x hx => by simp [hx])
     have hal := asm_len (ts := ts) (ms := ms) (s := false) hwl (fun m hm => by have := hp2.2.2 m hm; omega)
     refine asm_loop (d := 7) Mx sl1 hp2.1 hok (by omega) (hPw.tch Mx.tch (by simp)) (by rw [Mx.ex, hX]; rfl) (by rw [Mx.ex, hX]; rfl) (by omega) (by omega) ?_ ts n 0 [] false rfl (by omega) (by omega) (by simp) (fun _ => .inl rfl) (fun hh => by cases hh)
     intro acc hacc
     have him : ts.length < ms.length := by rw [hp2.1]; omega
     have im := fun c => idx_more (c := c) (p := ts.length) (m := ts.length + 1) (by omega)
     have cm := more_cell Mx him
     have a1 : addS acc ms[ts.length] = some (asm false ts ms) := by
      have := addS_val (a := acc) (b := ms[ts.length]) (by
       have := congrArg List.length hacc
       rw [List.length_append] at this
       omega)
      rw [hacc] at this
      exact this
     have lw := lenS_nat (asm false ts ms)
     by_cases hbig : 2048 < (asm false ts ms).length
     ·repeat (first | ((with_reducible apply Wp.obind); (with_reducible exact avStr_str _)) | (with_reducible refine Wp.lett ?_) | ((with_reducible apply Wp.obind); (with_reducible first | exact le1 | exact im _ | exact cm | exact a1)) | ((with_reducible refine Wp.ift ?_ ?_); ((with_reducible apply decide_eq_true); omega)) | (with_reducible refine Wp.go1 (by assumption) ?_))
      exact Wp.ret rfl
     ·obtain ⟨ts', q', hsm, hL⟩ := lex_asm pl hp2.pads (by omega)
      have hp3 := lex_w (n := n) (d := 0) (h := H2) (u := asm false ts ms) (by omega) (by omega) (by rw [Mx.ex, hX]; rfl) (by rw [Mx.ex, hX]; rfl) (by rw [Mx.ex, hX]; rfl)
      rw [hL] at hp3
      repeat (first | ((with_reducible apply Wp.obind); (with_reducible exact avStr_str _)) | (with_reducible refine Wp.lett ?_) | ((with_reducible apply Wp.obind); (with_reducible first | exact le1 | exact im _ | exact cm | exact a1)) | ((with_reducible refine Wp.iff ?_ ?_); ((with_reducible apply decide_eq_false); omega)) | (with_reducible refine Wp.go1 (by assumption) ?_))
      obtain ⟨h3, v3, T3, e3, g3, M3⟩ := hp3
      have e3 := (w3_lex n 14 _ _).trans e3
      have M4 := Mem.frame (xs := []) Mx M3
      refine Wp.callN e3 ?_
      clear Mx
      have Mx := M4.perm List.perm_append_comm
      clear M4
      simp only [List.cons_append] at Mx
      repeat (first | ((with_reducible apply Wp.lr0 Mx); rfl) | ((with_reducible apply Wp.sa0 Mx); rfl; rfl; (rfl); intro _ Mz; clear Mx; have Mx := Mz; clear Mz) | ((with_reducible apply Wp.mnew Mx); intro _ Mz; clear Mx; have Mx := Mz; clear Mz) | (with_reducible refine Wp.join1 (fun _ _ => ?_)) | ((with_reducible apply Wp.obind); (with_reducible first | exact eqSpot_zero | exact avAgg_agg _ | exact extT_0 _ _ | exact extT_1 _ _ _)) | ((with_reducible refine Wp.ift ?_ ?_); (with_reducible rfl)) | rw [newP_eq])
      have sl2 := GrowT.slc' g1 Mx (fun x hx => by simp [hx])
      have sl3 := GrowT.slc' g3 Mx (fun x hx => by simp [hx])
      have hsl := hsm.len
      have es := same3_w (n := n) (d := 14) sl3 sl2 hsm (by omega) (by omega)
      repeat (first | ((with_reducible apply Wp.obind); (with_reducible exact avBool_bool _)) | ((with_reducible apply Wp.callN); (with_reducible exact es)) | (with_reducible refine Wp.go1 (by assumption) ?_))
      exact Wp.ret rfl
end Go.Proofs.YtjopejiooipmkaaDoor
