/- What lexLines_proved stands on, part 7 of 8. -/
import Derived.Test.YtjopejiooipmkaaLtb6
namespace Go.Proofs.Ytjopejiooipmkaa
open Go.RowKit Abs

noncomputable def law12_LexTokens_L0b (v15 : AV) (v20 : AV) (k49 : AHeap → R) (self : Int → AHeap → R) (t7 : Int) (h_53 : AHeap) : R :=
 obind (lenL v15) fun t34 =>
 lett (decide (t7 < t34)) fun (t35 : Bool) =>
 ifB t35
 (
  obind (idxP 4 v15 t7) fun t40 =>
  obind (ldRow h_53 4 t40) fun t41 =>
  obind (idxP 4 v20 t7) fun t44 =>
  obind (ldRow h_53 4 t44) fun t45 =>
  obind (eqOther Try.prog 31 (.agg t41) (.agg t45)) fun t46 =>
  lett (!t46) fun (t46_66 : Bool) =>
  ifB t46_66
  (
   some (.ret (.bool false), h_53))
  (
   lett (IntKind.i64.wrap (t7 + 1)) fun (t37 : Int) =>
   self t37 h_53))
 (
  k49 h_53)
noncomputable def law12_LexTokens_L0 (v15 : AV) (v20 : AV) (k49 : AHeap → R) : Nat → Int → AHeap → R := iterR (fun _ _ => none) (law12_LexTokens_L0b v15 v20 k49)
theorem law12_LexTokens_L0_s (v15 : AV) (v20 : AV) (k49 : AHeap → R) (m : Nat) : law12_LexTokens_L0 v15 v20 k49 (m + 1) = law12_LexTokens_L0b v15 v20 k49 (law12_LexTokens_L0 v15 v20 k49 m) := rfl
noncomputable def law12_LexTokens (call : CallF) (n : Nat) (t0 : Bytes) (h : AHeap) : R :=
 callN (call 7 [] h) fun r8 h_4 =>
 obind (avBool r8) fun t8 =>
 lett (!t8) fun (t9 : Bool) =>
 ifB t9
 (
  some (.ret (.bool false), h_4))
 (
  callN (call 8 [strA t0] h_4) fun r11 h_11 =>
  obind (avBool r11) fun t11 =>
  ifB t11
  (
   some (.ret (.bool true), h_11))
  (
   callN (call 9 [strA t0] h_11) fun r14 h_16 =>
   obind (extT 0 r14) fun v15 =>
   obind (extT 1 r14) fun v16 =>
   obind (avAgg v16) fun t16 =>
   lett (newH h_16 27 [.int .i64 0, .int .i64 0]) fun h_21 =>
   obind (stRow h_21 2 t16 (newP h_16)) fun h_23 =>
   callN (call 10 [strA t0] h_23) fun r19 h_26 =>
   obind (extT 0 r19) fun v20 =>
   obind (extT 1 r19) fun v21 =>
   obind (avAgg v21) fun t21 =>
   lett (newH h_26 27 [.int .i64 0, .int .i64 0]) fun h_31 =>
   obind (stRow h_31 2 t21 (newP h_26)) fun h_33 =>
   obind (ldRow h_33 2 (newP h_16)) fun t22 =>
   obind (ldRow h_33 2 (newP h_26)) fun t23 =>
   obind (eqOther Try.prog 27 (.agg t22) (.agg t23)) fun t24 =>
   lett (!t24) fun (t24_40 : Bool) =>
   lett (fun (t31 : Bool) (h_42 : AHeap) =>
    ifB t31
    (
     some (.ret (.bool false), h_42))
    (
     lett (fun  (h_50 : AHeap) =>
      some (.ret (.bool true), h_50)) fun k49 =>
     law12_LexTokens_L0 v15 v20 k49 n 0 h_42)) fun j31 =>
   ifB t24_40
   (
    j31 true h_33)
   (
    obind (lenL v15) fun t27 =>
    obind (lenL v20) fun t29 =>
    lett ((t27 : Int) != t29) fun (t30 : Bool) =>
    j31 t30 h_33)))
set_option maxHeartbeats 4000000 in
set_option maxRecDepth 20000 in
theorem law12_LexTokens_ok {call : CallF} (hc : SaysAll Try.prog call) {n : Nat} {t0 : Bytes} {h : AHeap} {rR : ARes} {hR : AHeap} (hF : law12_LexTokens call n t0 h = some (rR, hR)) : Says Try.prog 3 [strA t0] h rR hR := by
 unfold law12_LexTokens at hF
 refine says_of (fn := Try.f3) Try.func3 (c := codeOf Try.f3) (by kernel_rfl) (by kernel_rfl) (fun w0 m0 => ?_)
 refine W.weaken (l' := [(0, strA t0)]) (Fr.c Fr.n) ?_
 refine W.s (fun K1 n1 e1 q1 p1 => ?_)
 refine W.r ?_
 refine WL.a (some 2) (.bool false) h ?_
 refine WL.n ?_
 refine Go.weaken (l' := [(0, strA t0)]) (Fr.c Fr.n) ?_
 refine n1 ?_
 refine W.s (fun K2 n2 e2 q2 p2 => ?_)
 refine W.s (fun K3 n3 e3 q3 p3 => ?_)
 refine W.r ?_
 replace hF := callN_some hF; obtain ⟨r8, h_4, e5, hF⟩ := hF
 replace hF := obind_some hF; obtain ⟨t8, c6, hF⟩ := hF
 have c6 := avBool_some c6
 subst c6
 refine WL.c (hc.ok w0) (some 8) e5 ?_
 replace hF := lett_some hF; obtain ⟨t9, e7, hF⟩ := hF
 refine WL.val (d := (some 9)) (v := .bool t9) (h' := h_4) (by kernel_rfl) (by kernel_rfl) (val_of AV.bool e7 (by kernel_rfl)) ?_
 refine WL.n ?_
 refine Go.weaken (l' := [(0, strA t0), (9, .bool t9)]) (Fr.c (Fr.c Fr.n)) ?_
 refine n3 ?_
 cases t9 with
 | true =>
  replace hF := ifB_t hF
  refine W.t ?_
  refine W.s (fun K8 n8 e8 q8 p8 => ?_)
  refine W.r ?_
  refine WL.a (some 2) (.bool false) h_4 ?_
  refine WL.n ?_
  refine Go.weaken (l' := [(2, .bool false)]) (Fr.c Fr.n) ?_
  refine n8 ?_
  refine W.ret (by kernel_rfl) ?_
  refine q2 ?_
  obtain ⟨hF, hF2⟩ := ret_inj hF; subst hF; subst hF2
  exact leave_of (rs := [.tmp 2]) (vs := [.bool false]) (by kernel_rfl) (res_tmp (by kernel_rfl) res_nil) (by kernel_rfl)
 | false =>
  replace hF := ifB_f hF
  refine W.f ?_
  refine W.skip (by kernel_rfl) ?_
  refine n2 ?_
  refine W.s (fun K9 n9 e9 q9 p9 => ?_)
  refine W.s (fun K10 n10 e10 q10 p10 => ?_)
  refine W.r ?_
  refine WL.a (some 10) (strA t0) h_4 ?_
  replace hF := callN_some hF; obtain ⟨r11, h_11, e12, hF⟩ := hF
  replace hF := obind_some hF; obtain ⟨t11, c13, hF⟩ := hF
  have c13 := avBool_some c13
  subst c13
  refine WL.c (hc.ok w0) (some 11) e12 ?_
  refine WL.n ?_
  refine Go.weaken (l' := [(0, strA t0), (11, .bool t11)]) (Fr.c (Fr.c Fr.n)) ?_
  refine n10 ?_
  cases t11 with
  | true =>
   replace hF := ifB_t hF
   refine W.t ?_
   refine W.s (fun K14 n14 e14 q14 p14 => ?_)
   refine W.r ?_
   refine WL.a (some 2) (.bool true) h_11 ?_
   refine WL.n ?_
   refine Go.weaken (l' := [(2, .bool true)]) (Fr.c Fr.n) ?_
   refine n14 ?_
   refine W.ret (by kernel_rfl) ?_
   refine q9 ?_
   obtain ⟨hF, hF2⟩ := ret_inj hF; subst hF; subst hF2
   exact leave_of (rs := [.tmp 2]) (vs := [.bool true]) (by kernel_rfl) (res_tmp (by kernel_rfl) res_nil) (by kernel_rfl)
  | false =>
   replace hF := ifB_f hF
   refine W.f ?_
   refine W.skip (by kernel_rfl) ?_
   refine n9 ?_
   refine W.s (fun K15 n15 e15 q15 p15 => ?_)
   refine W.r ?_
   refine WL.a (some 13) (strA t0) h_11 ?_
   replace hF := callN_some hF; obtain ⟨r14, h_16, e17, hF⟩ := hF
   refine WL.c (hc.ok w0) (some 14) e17 ?_
   refine WL.a (some 12) r14 h_16 ?_
   replace hF := obind_some hF; obtain ⟨v15, e18, hF⟩ := hF
   refine WL.b (some 15) v15 h_16 (extract_tup (h := h_16) e18) ?_
   replace hF := obind_some hF; obtain ⟨v16, e19, hF⟩ := hF
   replace hF := obind_some hF; obtain ⟨t16, c20, hF⟩ := hF
   have c20 := avAgg_some c20
   subst c20
   refine WL.b (some 16) (.agg t16) h_16 (extract_tup (h := h_16) e19) ?_
   replace hF := lett_some hF; obtain ⟨h_21, e22, hF⟩ := hF
   refine WL.val (d := (some 4)) (v := (newP h_16)) (h' := h_21) (by kernel_rfl) (by kernel_rfl) (val_ofH e22 (by kernel_rfl)) ?_
   refine WL.a (some 3) v15 h_21 ?_
   replace hF := obind_some hF; obtain ⟨h_23, e24, hF⟩ := hF
   refine WL.e h_23 (store_row (P := Try.prog) (h := h_21) (t := 27) (v := (.agg t16)) (by kernel_rfl) (by kernel_rfl) e24) ?_
   refine WL.n ?_
   refine Go.weaken (l' := [(0, strA t0), (3, v15), (4, (newP h_16))]) (Fr.c (Fr.c (Fr.c Fr.n))) ?_
   refine n15 ?_
   refine W.s (fun K25 n25 e25 q25 p25 => ?_)
   refine W.r ?_
   refine WL.a (some 18) (strA t0) h_23 ?_
   replace hF := callN_some hF; obtain ⟨r19, h_26, e27, hF⟩ := hF
   refine WL.c (hc.ok w0) (some 19) e27 ?_
   refine WL.a (some 17) r19 h_26 ?_
   replace hF := obind_some hF; obtain ⟨v20, e28, hF⟩ := hF
   refine WL.b (some 20) v20 h_26 (extract_tup (h := h_26) e28) ?_
   replace hF := obind_some hF; obtain ⟨v21, e29, hF⟩ := hF
   replace hF := obind_some hF; obtain ⟨t21, c30, hF⟩ := hF
   have c30 := avAgg_some c30
   subst c30
   refine WL.b (some 21) (.agg t21) h_26 (extract_tup (h := h_26) e29) ?_
   replace hF := lett_some hF; obtain ⟨h_31, e32, hF⟩ := hF
   refine WL.val (d := (some 6)) (v := (newP h_26)) (h' := h_31) (by kernel_rfl) (by kernel_rfl) (val_ofH e32 (by kernel_rfl)) ?_
   refine WL.a (some 5) v20 h_31 ?_
   replace hF := obind_some hF; obtain ⟨h_33, e34, hF⟩ := hF
   refine WL.e h_33 (store_row (P := Try.prog) (h := h_31) (t := 27) (v := (.agg t21)) (by kernel_rfl) (by kernel_rfl) e34) ?_
   refine WL.n ?_
   refine Go.weaken (l' := [(3, v15), (4, (newP h_16)), (5, v20), (6, (newP h_26))]) (Fr.c (Fr.c (Fr.c (Fr.c Fr.n)))) ?_
   refine n25 ?_
   refine W.s (fun K35 n35 e35 q35 p35 => ?_)
   refine W.s (fun K36 n36 e36 q36 p36 => ?_)
   refine W.r ?_
   replace hF := obind_some hF; obtain ⟨t22, e37, hF⟩ := hF
   refine WL.b (some 22) (.agg t22) h_33 (load_row (P := Try.prog) (h := h_33) (t := 27) (by kernel_rfl) (by kernel_rfl) e37) ?_
   replace hF := obind_some hF; obtain ⟨t23, e38, hF⟩ := hF
   refine WL.b (some 23) (.agg t23) h_33 (load_row (P := Try.prog) (h := h_33) (t := 27) (by kernel_rfl) (by kernel_rfl) e38) ?_
   replace hF := obind_some hF; obtain ⟨t24, e39, hF⟩ := hF
   replace hF := lett_some hF; obtain ⟨t24_40, e41, hF⟩ := hF
   refine WL.val (d := (some 24)) (v := .bool t24_40) (h' := h_33) (by kernel_rfl) (by kernel_rfl) (val_of AV.bool e41 (Eq.trans (by kernel_rfl) (neq_other (P := Try.prog) (h := h_33) (t := 27) (lit := false) (by kernel_rfl) e39))) ?_
   refine WL.a (some 25) (.bool t24_40) h_33 ?_
   replace hF := lett_some hF; obtain ⟨j31, e43, hF⟩ := hF
   have J44 : ∀ (t31 : Bool) (h_42 : AHeap), j31 t31 h_42 = some (rR, hR) → WL Try.prog w0 m0 (Func.ntmps Try.f3) (Code.ops (Code.p1 (Code.p1 (Code.p2 (Code.p2 (Code.p2 (Code.p2 (Code.p2 (codeOf Try.f3))))))))) 10 K36 [(3, v15), (5, v20), (31, .bool t31)] [] h_42 := by
    intro t31 h_42 hF
    rw [e43] at hF
    refine WL.n ?_
    refine Go.weaken (l' := [(3, v15), (5, v20), (31, .bool t31)]) (Fr.c (Fr.c (Fr.c Fr.n))) ?_
    refine n36 ?_
    cases t31 with
    | true =>
     replace hF := ifB_t hF
     refine W.t ?_
     refine W.s (fun K45 n45 e45 q45 p45 => ?_)
     refine W.r ?_
     refine WL.a (some 2) (.bool false) h_42 ?_
     refine WL.n ?_
     refine Go.weaken (l' := [(2, .bool false)]) (Fr.c Fr.n) ?_
     refine n45 ?_
     refine W.ret (by kernel_rfl) ?_
     refine q35 ?_
     obtain ⟨hF, hF2⟩ := ret_inj hF; subst hF; subst hF2
     exact leave_of (rs := [.tmp 2]) (vs := [.bool false]) (by kernel_rfl) (res_tmp (by kernel_rfl) res_nil) (by kernel_rfl)
    | false =>
     replace hF := ifB_f hF
     refine W.f ?_
     refine W.skip (by kernel_rfl) ?_
     refine n35 ?_
     refine W.s (fun K46 n46 e46 q46 p46 => ?_)
     refine W.s (fun K47 n47 e47 q47 p47 => ?_)
     refine W.r ?_
     refine WL.a (some 7) (.int .i64 0) h_42 ?_
     refine WL.n ?_
     refine Go.weaken (l' := [(3, v15), (5, v20), (7, .int .i64 0)]) (Fr.c (Fr.c (Fr.c Fr.n))) ?_
     refine n47 ?_
     replace hF := lett_some hF; obtain ⟨k49, e49, hF⟩ := hF
     have J49 : ∀  (h_50 : AHeap), k49 h_50 = some (rR, hR) → Go w0 m0 (Func.ntmps Try.f3) (K46 .normal) [] [] h_50 := by
      intro  h_50 hF
      rw [e49] at hF
      refine n46 ?_
      refine W.s (fun K51 n51 e51 q51 p51 => ?_)
      refine W.r ?_
      refine WL.a (some 2) (.bool true) h_50 ?_
      refine WL.n ?_
      refine Go.weaken (l' := [(2, .bool true)]) (Fr.c Fr.n) ?_
      refine n51 ?_
      refine W.ret (by kernel_rfl) ?_
      obtain ⟨hF, hF2⟩ := ret_inj hF; subst hF; subst hF2
      exact leave_of (rs := [.tmp 2]) (vs := [.bool true]) (by kernel_rfl) (res_tmp (by kernel_rfl) res_nil) (by kernel_rfl)
     refine W.blockK (by kernel_rfl) (fun K48 n48 s48 o48 q48 p48 => ?_)
     refine W.loopK (by kernel_rfl) (fun I52 K52 b52 n52 e52 q52 p52 => ?_)
     have L52 : ∀ (m : Nat) (t7 : Int) (h_53 : AHeap), law12_LexTokens_L0 v15 v20 k49 m t7 h_53 = some (rR, hR) → Go w0 m0 (Func.ntmps Try.f3) I52 [(3, v15), (5, v20), (7, .int .i64 t7)] [] h_53 := by
      intro m
      induction m with
      | zero => intro t7 h_53 hF; cases hF
      | succ m ih52 =>
       intro t7 h_53 hF
       rw [law12_LexTokens_L0_s] at hF; unfold law12_LexTokens_L0b at hF
       refine b52 ?_
       refine W.s (fun K54 n54 e54 q54 p54 => ?_)
       refine W.s (fun K55 n55 e55 q55 p55 => ?_)
       refine W.r ?_
       refine WL.a (some 32) (.int .i64 t7) h_53 ?_
       refine WL.a (some 33) v15 h_53 ?_
       replace hF := obind_some hF; obtain ⟨t34, e56, hF⟩ := hF
       refine WL.b (some 34) (.int .i64 t34) h_53 (len_row (P := Try.prog) (h := h_53) (t := 24) (e' := 31) (by kernel_rfl) e56) ?_
       replace hF := lett_some hF; obtain ⟨t35, e57, hF⟩ := hF
       refine WL.val (d := (some 35)) (v := .bool t35) (h' := h_53) (by kernel_rfl) (by kernel_rfl) (val_of AV.bool e57 (by kernel_rfl)) ?_
       refine WL.n ?_
       refine Go.weaken (l' := [(3, v15), (5, v20), (7, .int .i64 t7), (35, .bool t35)]) (Fr.c (Fr.c (Fr.c (Fr.c Fr.n)))) ?_
       refine n55 ?_
       cases t35 with
       | true =>
        replace hF := ifB_t hF
        refine W.t ?_
        refine W.skip (by kernel_rfl) ?_
        refine n54 ?_
        refine W.s (fun K58 n58 e58 q58 p58 => ?_)
        refine W.blockK (by kernel_rfl) (fun K59 n59 s59 o59 q59 p59 => ?_)
        refine W.s (fun K60 n60 e60 q60 p60 => ?_)
        refine W.draw (by kernel_rfl) (hc.ok w0) (plan := [0, 1, 2, 3, 4, 5, 6, 7, 8]) (by kernel_rfl) (by kernel_rfl) (by kernel_rfl) ?_
        refine WD.a 0 (some 38) v15 h_53 ?_
        refine WD.a 0 (some 39) (.int .i64 t7) h_53 ?_
        replace hF := obind_some hF; obtain ⟨t40, e61, hF⟩ := hF
        refine WD.b 0 (some 40) t40 h_53 (index_row (P := Try.prog) (h := h_53) (t := 24) (e' := 31) (k := .i64) (by kernel_rfl) (by kernel_rfl) (by kernel_rfl) e61) ?_
        replace hF := obind_some hF; obtain ⟨t41, e62, hF⟩ := hF
        refine WD.b 1 (some 41) (.agg t41) h_53 (load_row (P := Try.prog) (h := h_53) (t := 31) (by kernel_rfl) (by kernel_rfl) e62) ?_
        refine WD.a 0 (some 42) v20 h_53 ?_
        refine WD.a 0 (some 43) (.int .i64 t7) h_53 ?_
        replace hF := obind_some hF; obtain ⟨t44, e63, hF⟩ := hF
        refine WD.b 0 (some 44) t44 h_53 (index_row (P := Try.prog) (h := h_53) (t := 24) (e' := 31) (k := .i64) (by kernel_rfl) (by kernel_rfl) (by kernel_rfl) e63) ?_
        replace hF := obind_some hF; obtain ⟨t45, e64, hF⟩ := hF
        refine WD.b 1 (some 45) (.agg t45) h_53 (load_row (P := Try.prog) (h := h_53) (t := 31) (by kernel_rfl) (by kernel_rfl) e64) ?_
        replace hF := obind_some hF; obtain ⟨t46, e65, hF⟩ := hF
        replace hF := lett_some hF; obtain ⟨t46_66, e67, hF⟩ := hF
        refine WD.val (d := (some 46)) (v := .bool t46_66) (h' := h_53) (by kernel_rfl) (by kernel_rfl) (val_of AV.bool e67 (Eq.trans (by kernel_rfl) (neq_other (P := Try.prog) (h := h_53) (t := 31) (lit := false) (by kernel_rfl) e65))) (k := 0) (by kernel_rfl) (fun e => absurd e (by decide)) (by decide) ?_
        refine WD.nil ?_
        refine Go.weaken (l' := [(3, v15), (5, v20), (7, .int .i64 t7), (46, .bool t46_66)]) (Fr.c (Fr.c (Fr.c (Fr.c Fr.n)))) ?_
        refine n60 ?_
        cases t46_66 with
        | true =>
         replace hF := ifB_t hF
         refine W.t ?_
         refine W.s (fun K68 n68 e68 q68 p68 => ?_)
         refine W.r ?_
         refine WL.a (some 2) (.bool false) h_53 ?_
         refine WL.n ?_
         refine Go.weaken (l' := [(2, .bool false)]) (Fr.c Fr.n) ?_
         refine n68 ?_
         refine W.ret (by kernel_rfl) ?_
         refine q59 ?_
         refine q58 ?_
         refine q52 ?_
         refine q48 ?_
         refine q46 ?_
         obtain ⟨hF, hF2⟩ := ret_inj hF; subst hF; subst hF2
         exact leave_of (rs := [.tmp 2]) (vs := [.bool false]) (by kernel_rfl) (res_tmp (by kernel_rfl) res_nil) (by kernel_rfl)
        | false =>
         replace hF := ifB_f hF
         refine W.f ?_
         refine W.skip (by kernel_rfl) ?_
         refine n59 ?_
         refine n58 ?_
         refine W.r ?_
         refine WL.a (some 36) (.int .i64 t7) h_53 ?_
         replace hF := lett_some hF; obtain ⟨t37, e69, hF⟩ := hF
         refine WL.val (d := (some 37)) (v := .int .i64 t37) (h' := h_53) (by kernel_rfl) (by kernel_rfl) (val_of (AV.int .i64) e69 (by kernel_rfl)) ?_
         refine WL.a (some 7) (.int .i64 t37) h_53 ?_
         refine WL.n ?_
         refine Go.weaken (l' := [(3, v15), (5, v20), (7, .int .i64 t37)]) (Fr.c (Fr.c (Fr.c Fr.n))) ?_
         refine n52 ?_
         exact Go.weaken (Fr.c (Fr.c (Fr.c Fr.n))) (ih52 _ _ hF)
       | false =>
        replace hF := ifB_f hF
        refine W.f ?_
        refine W.exit (by kernel_rfl) ?_
        refine e54 ?_
        refine e52 ?_
        refine s48 (by kernel_rfl) ?_
        exact Go.weaken Fr.n (J49 _ hF)
     exact Go.weaken (Fr.c (Fr.c (Fr.c Fr.n))) (L52 _ _ _ hF)
   cases t24_40 with
   | true =>
    replace hF := ifB_t hF
    refine WL.o (some 26) ?_
    refine WL.o (some 27) ?_
    refine WL.o (some 28) ?_
    refine WL.o (some 29) ?_
    refine WL.o (some 30) ?_
    refine WL.a (some 31) (.bool true) h_33 ?_
    exact WL.weaken (Fr.c (Fr.c (Fr.c Fr.n))) (J44 _ _ hF)
   | false =>
    replace hF := ifB_f hF
    refine WL.a (some 26) v15 h_33 ?_
    replace hF := obind_some hF; obtain ⟨t27, e70, hF⟩ := hF
    refine WL.b (some 27) (.int .i64 t27) h_33 (len_row (P := Try.prog) (h := h_33) (t := 24) (e' := 31) (by kernel_rfl) e70) ?_
    refine WL.a (some 28) v20 h_33 ?_
    replace hF := obind_some hF; obtain ⟨t29, e71, hF⟩ := hF
    refine WL.b (some 29) (.int .i64 t29) h_33 (len_row (P := Try.prog) (h := h_33) (t := 24) (e' := 31) (by kernel_rfl) e71) ?_
    replace hF := lett_some hF; obtain ⟨t30, e72, hF⟩ := hF
    refine WL.val (d := (some 30)) (v := .bool t30) (h' := h_33) (by kernel_rfl) (by kernel_rfl) (val_of AV.bool e72 (by kernel_rfl)) ?_
    refine WL.a (some 31) (.bool t30) h_33 ?_
    exact WL.weaken (Fr.c (Fr.c (Fr.c Fr.n))) (J44 _ _ hF)
noncomputable def law12_LexTokens_fn (call : CallF) (n : Nat) : FnT := fun args h => match args with
 | [x0] => obind (avStr x0) fun t0 => law12_LexTokens call n t0 h
 | _ => none
theorem law12_LexTokens_holds {call : CallF} (hc : SaysAll Try.prog call) (n : Nat) : Holds Try.prog 3 (law12_LexTokens_fn call n) := by
 intro args h r h2 e
 unfold law12_LexTokens_fn at e
 split at e
 ·replace e := obind_some e; obtain ⟨t0, c0, e⟩ := e; have c0 := avStr_some c0; subst c0
  exact law12_LexTokens_ok hc e
 ·cases e

noncomputable def law12_great (_ : CallF) (_ : Nat) (t0 : Bytes) (h : AHeap) : R :=
 lett (decide ((lenS t0) > 65536)) fun (t5 : Bool) =>
 some (.ret (.bool t5), h)
set_option maxHeartbeats 4000000 in
set_option maxRecDepth 20000 in
theorem law12_great_ok {call : CallF} (_ : SaysAll Try.prog call) {n : Nat} {t0 : Bytes} {h : AHeap} {rR : ARes} {hR : AHeap} (hF : law12_great call n t0 h = some (rR, hR)) : Says Try.prog 8 [strA t0] h rR hR := by
 unfold law12_great at hF
 refine says_of (fn := Try.f8) Try.func8 (c := codeOf Try.f8) (by kernel_rfl) (by kernel_rfl) (fun w0 m0 => ?_)
 refine W.weaken (l' := [(0, strA t0)]) (Fr.c Fr.n) ?_
 refine W.s (fun K1 n1 e1 q1 p1 => ?_)
 refine W.r ?_
 refine WL.a (some 2) (.bool false) h ?_
 refine WL.n ?_
 refine Go.weaken (l' := [(0, strA t0)]) (Fr.c Fr.n) ?_
 refine n1 ?_
 refine W.s (fun K2 n2 e2 q2 p2 => ?_)
 refine W.r ?_
 refine WL.a (some 3) (strA t0) h ?_
 refine WL.a (some 4) (.int .i64 (lenS t0)) h ?_
 replace hF := lett_some hF; obtain ⟨t5, e3, hF⟩ := hF
 refine WL.val (d := (some 5)) (v := .bool t5) (h' := h) (by kernel_rfl) (by kernel_rfl) (val_of AV.bool e3 (by kernel_rfl)) ?_
 refine WL.a (some 2) (.bool t5) h ?_
 refine WL.n ?_
 refine Go.weaken (l' := [(2, .bool t5)]) (Fr.c Fr.n) ?_
 refine n2 ?_
 refine W.ret (by kernel_rfl) ?_
 obtain ⟨hF, hF2⟩ := ret_inj hF; subst hF; subst hF2
 exact leave_of (rs := [.tmp 2]) (vs := [.bool t5]) (by kernel_rfl) (res_tmp (by kernel_rfl) res_nil) (by kernel_rfl)
noncomputable def law12_great_fn (call : CallF) (n : Nat) : FnT := fun args h => match args with
 | [x0] => obind (avStr x0) fun t0 => law12_great call n t0 h
 | _ => none
theorem law12_great_holds {call : CallF} (hc : SaysAll Try.prog call) (n : Nat) : Holds Try.prog 8 (law12_great_fn call n) := by
 intro args h r h2 e
 unfold law12_great_fn at e
 split at e
 ·replace e := obind_some e; obtain ⟨t0, c0, e⟩ := e; have c0 := avStr_some c0; subst c0
  exact law12_great_ok hc e
 ·cases e

end Go.Proofs.Ytjopejiooipmkaa

namespace Go.Proofs.Ytjopejiooipmkaa
open Go.RowKit Abs

noncomputable def worldF (n : Nat) (call : CallF) : CallF := callOf [
 (7, (constF (.ret (.bool true)))),
 (64, ibF),
 (40, signF),
 (42, pattern_guard_fn call n),
 (41, gcF (pattern_Quoted_fn call n)),
 (43, pattern_Quoted_1_fn call n),
 (44, pattern_reader_quoted_fn call n),
 (46, pattern_reader_take_fn call n),
 (47, pattern_reader_skips_fn call n),
 (53, pattern_reader_sees_fn call n),
 (59, pattern_reader_ended_fn call n),
 (51, pattern_reader_form_fn call n),
 (55, pattern_reader_next_fn call n),
 (57, pattern_reader_refuseLast_fn call n),
 (49, gcF (pattern_refuse_fn call n)),
 (58, pattern_reader_twoDigits_fn call n),
 (61, pattern_reader_digit_fn call n),
 (62, gcF (pattern_mayBegin_fn call n)),
 (63, gcF (pattern_byDigits_fn call n)),
 (65, gcF (pattern_short_fn call n)),
 (56, gcF (pattern_plain_fn call n)),
 (50, strings_Builder_WriteByte_fn call n),
 (48, strings_Builder_Len_fn call n),
 (52, strings_Builder_String_fn call n),
 (54, strings_Builder_copyCheck_fn call n),
 (35, gcF (ref09_byteAt_fn call n)),
 (34, gcF (ref09_Scan_fn call n)),
 (25, gcF (ref09_Quoted_fn call n)),
 (36, gcF (ref09_bad_fn call n)),
 (9, gcF (lex_Lex_fn call n)),
 (13, lex_lexer_line_fn call n),
 (21, lex_lexer_skipBlanks_fn call n),
 (32, gcF (lex_lexer_skipBlanks_1_fn call n)),
 (30, lex_lexer_skip_fn call n),
 (22, lex_lexer_lineEnds_fn call n),
 (23, lex_lexer_token_fn call n),
 (33, gcF (lex_read_fn call n)),
 (37, gcF (lex_readWord_fn call n)),
 (17, gcF (lex_wordEnd_fn call n)),
 (28, gcF (lex_wordEnd_1_fn call n)),
 (39, gcF (lex_readText_fn call n)),
 (38, gcF (lex_readNumber_fn call n)),
 (27, lex_run_fn call n),
 (15, gcF (lex_small_fn call n)),
 (29, gcF (lex_digit_fn call n)),
 (31, gcF (lex_blank_fn call n)),
 (10, gcF (ref12_Lex_fn call n)),
 (14, gcF (ref12_token_fn call n)),
 (18, gcF (ref12_first_fn call n)),
 (19, gcF (ref12_In_fn call n)),
 (24, gcF (ref12_number_fn call n)),
 (26, gcF (ref12_ends_fn call n)),
 (3, gcF (law12_LexTokens_fn call n)),
 (8, gcF (law12_great_fn call n))]
set_option maxRecDepth 20000 in
theorem worldF_ok (n : Nat) (call : CallF) (hc : SaysAll Try.prog call) : SaysAll Try.prog (worldF n call) := (callOf_cons works_holds
 (callOf_cons ibF_holds
 (callOf_cons signF_holds
 (callOf_cons (pattern_guard_holds hc n)
 (callOf_cons (gcF_holds (pattern_Quoted_holds hc n))
 (callOf_cons (pattern_Quoted_1_holds hc n)
 (callOf_cons (pattern_reader_quoted_holds hc n)
 (callOf_cons (pattern_reader_take_holds hc n)
 (callOf_cons (pattern_reader_skips_holds hc n)
 (callOf_cons (pattern_reader_sees_holds hc n)
 (callOf_cons (pattern_reader_ended_holds hc n)
 (callOf_cons (pattern_reader_form_holds hc n)
 (callOf_cons (pattern_reader_next_holds hc n)
 (callOf_cons (pattern_reader_refuseLast_holds hc n)
 (callOf_cons (gcF_holds (pattern_refuse_holds hc n))
 (callOf_cons (pattern_reader_twoDigits_holds hc n)
 (callOf_cons (pattern_reader_digit_holds hc n)
 (callOf_cons (gcF_holds (pattern_mayBegin_holds hc n))
 (callOf_cons (gcF_holds (pattern_byDigits_holds hc n))
 (callOf_cons (gcF_holds (pattern_short_holds hc n))
 (callOf_cons (gcF_holds (pattern_plain_holds hc n))
 (callOf_cons (strings_Builder_WriteByte_holds hc n)
 (callOf_cons (strings_Builder_Len_holds hc n)
 (callOf_cons (strings_Builder_String_holds hc n)
 (callOf_cons (strings_Builder_copyCheck_holds hc n)
 (callOf_cons (gcF_holds (ref09_byteAt_holds hc n))
 (callOf_cons (gcF_holds (ref09_Scan_holds hc n))
 (callOf_cons (gcF_holds (ref09_Quoted_holds hc n))
 (callOf_cons (gcF_holds (ref09_bad_holds hc n))
 (callOf_cons (gcF_holds (lex_Lex_holds hc n))
 (callOf_cons (lex_lexer_line_holds hc n)
 (callOf_cons (lex_lexer_skipBlanks_holds hc n)
 (callOf_cons (gcF_holds (lex_lexer_skipBlanks_1_holds hc n))
 (callOf_cons (lex_lexer_skip_holds hc n)
 (callOf_cons (lex_lexer_lineEnds_holds hc n)
 (callOf_cons (lex_lexer_token_holds hc n)
 (callOf_cons (gcF_holds (lex_read_holds hc n))
 (callOf_cons (gcF_holds (lex_readWord_holds hc n))
 (callOf_cons (gcF_holds (lex_wordEnd_holds hc n))
 (callOf_cons (gcF_holds (lex_wordEnd_1_holds hc n))
 (callOf_cons (gcF_holds (lex_readText_holds hc n))
 (callOf_cons (gcF_holds (lex_readNumber_holds hc n))
 (callOf_cons (lex_run_holds hc n)
 (callOf_cons (gcF_holds (lex_small_holds hc n))
 (callOf_cons (gcF_holds (lex_digit_holds hc n))
 (callOf_cons (gcF_holds (lex_blank_holds hc n))
 (callOf_cons (gcF_holds (ref12_Lex_holds hc n))
 (callOf_cons (gcF_holds (ref12_token_holds hc n))
 (callOf_cons (gcF_holds (ref12_first_holds hc n))
 (callOf_cons (gcF_holds (ref12_In_holds hc n))
 (callOf_cons (gcF_holds (ref12_number_holds hc n))
 (callOf_cons (gcF_holds (ref12_ends_holds hc n))
 (callOf_cons (gcF_holds (law12_LexTokens_holds hc n))
 (callOf_cons (gcF_holds (law12_great_holds hc n))
 callOf_nil))))))))))))))))))))))))))))))))))))))))))))))))))))))
noncomputable def world (n d : Nat) : CallF := iterW (worldF n) d
theorem world_ok (n d : Nat) : SaysAll Try.prog (world n d) := iterW_ok (worldF_ok n) d
theorem w_true (n d : Nat) (args : List AV) (h : AHeap) : world n (d + 1) 7 args h = (constF (.ret (.bool true))) args h := by kernel_rfl
theorem w_ibF (n d : Nat) (args : List AV) (h : AHeap) : world n (d + 1) 64 args h = ibF args h := by kernel_rfl
theorem w_pattern_guard (n d : Nat) (t0 : AV) (h : AHeap) : world n (d + 1) 42 [t0] h = pattern_guard (world n d) n t0 h :=
 Eq.trans (b := pattern_guard_fn (world n d) n [t0] h) (by kernel_rfl) (by rw [pattern_guard_fn_eq])
theorem w_pattern_Quoted (n d : Nat) (t0 : Bytes) (t1 : Int) (h : AHeap) : world n (d + 1) 41 [strA t0, .int .i64 t1] h = gcR h (pattern_Quoted (world n d) n t0 t1 h) :=
 Eq.trans (b := gcR h (pattern_Quoted_fn (world n d) n [strA t0, .int .i64 t1] h)) (by kernel_rfl) (by rw [pattern_Quoted_fn_eq])
theorem w_pattern_Quoted_1 (n d : Nat) (t0 : AV) (t1 : AV) (t2 : AV) (h : AHeap) : world n (d + 1) 43 [t0, t1, t2] h = pattern_Quoted_1 (world n d) n t0 t1 t2 h :=
 Eq.trans (b := pattern_Quoted_1_fn (world n d) n [t0, t1, t2] h) (by kernel_rfl) (by rw [pattern_Quoted_1_fn_eq])
theorem w_pattern_reader_quoted (n d : Nat) (t0 : AV) (t1 : Int) (h : AHeap) : world n (d + 1) 44 [t0, .int .i64 t1] h = pattern_reader_quoted (world n d) n t0 t1 h :=
 Eq.trans (b := pattern_reader_quoted_fn (world n d) n [t0, .int .i64 t1] h) (by kernel_rfl) (by rw [pattern_reader_quoted_fn_eq])
theorem w_pattern_reader_take (n d : Nat) (t0 : AV) (t1 : Int) (h : AHeap) : world n (d + 1) 46 [t0, .int .u8 t1] h = pattern_reader_take (world n d) n t0 t1 h :=
 Eq.trans (b := pattern_reader_take_fn (world n d) n [t0, .int .u8 t1] h) (by kernel_rfl) (by rw [pattern_reader_take_fn_eq])
theorem w_pattern_reader_skips (n d : Nat) (t0 : AV) (t1 : Int) (h : AHeap) : world n (d + 1) 47 [t0, .int .u8 t1] h = pattern_reader_skips (world n d) n t0 t1 h :=
 Eq.trans (b := pattern_reader_skips_fn (world n d) n [t0, .int .u8 t1] h) (by kernel_rfl) (by rw [pattern_reader_skips_fn_eq])
theorem w_pattern_reader_sees (n d : Nat) (t0 : AV) (t1 : Int) (h : AHeap) : world n (d + 1) 53 [t0, .int .u8 t1] h = pattern_reader_sees (world n d) n t0 t1 h :=
 Eq.trans (b := pattern_reader_sees_fn (world n d) n [t0, .int .u8 t1] h) (by kernel_rfl) (by rw [pattern_reader_sees_fn_eq])
theorem w_pattern_reader_ended (n d : Nat) (t0 : AV) (h : AHeap) : world n (d + 1) 59 [t0] h = pattern_reader_ended (world n d) n t0 h :=
 Eq.trans (b := pattern_reader_ended_fn (world n d) n [t0] h) (by kernel_rfl) (by rw [pattern_reader_ended_fn_eq])
theorem w_pattern_reader_form (n d : Nat) (t0 : AV) (h : AHeap) : world n (d + 1) 51 [t0] h = pattern_reader_form (world n d) n t0 h :=
 Eq.trans (b := pattern_reader_form_fn (world n d) n [t0] h) (by kernel_rfl) (by rw [pattern_reader_form_fn_eq])
theorem w_pattern_reader_next (n d : Nat) (t0 : AV) (h : AHeap) : world n (d + 1) 55 [t0] h = pattern_reader_next (world n d) n t0 h :=
 Eq.trans (b := pattern_reader_next_fn (world n d) n [t0] h) (by kernel_rfl) (by rw [pattern_reader_next_fn_eq])
theorem w_pattern_reader_refuseLast (n d : Nat) (t0 : AV) (h : AHeap) : world n (d + 1) 57 [t0] h = pattern_reader_refuseLast (world n d) n t0 h :=
 Eq.trans (b := pattern_reader_refuseLast_fn (world n d) n [t0] h) (by kernel_rfl) (by rw [pattern_reader_refuseLast_fn_eq])
theorem w_pattern_refuse (n d : Nat) (t0 : Int) (t1 : Int) (h : AHeap) : world n (d + 1) 49 [.int .i64 t0, .int .i64 t1] h = gcR h (pattern_refuse (world n d) n t0 t1 h) :=
 Eq.trans (b := gcR h (pattern_refuse_fn (world n d) n [.int .i64 t0, .int .i64 t1] h)) (by kernel_rfl) (by rw [pattern_refuse_fn_eq])
theorem w_pattern_reader_twoDigits (n d : Nat) (t0 : AV) (h : AHeap) : world n (d + 1) 58 [t0] h = pattern_reader_twoDigits (world n d) n t0 h :=
 Eq.trans (b := pattern_reader_twoDigits_fn (world n d) n [t0] h) (by kernel_rfl) (by rw [pattern_reader_twoDigits_fn_eq])
theorem w_pattern_reader_digit (n d : Nat) (t0 : AV) (h : AHeap) : world n (d + 1) 61 [t0] h = pattern_reader_digit (world n d) n t0 h :=
 Eq.trans (b := pattern_reader_digit_fn (world n d) n [t0] h) (by kernel_rfl) (by rw [pattern_reader_digit_fn_eq])
theorem w_pattern_mayBegin (n d : Nat) (t0 : Int) (h : AHeap) : world n (d + 1) 62 [.int .u8 t0] h = gcR h (pattern_mayBegin (world n d) n t0 h) :=
 Eq.trans (b := gcR h (pattern_mayBegin_fn (world n d) n [.int .u8 t0] h)) (by kernel_rfl) (by rw [pattern_mayBegin_fn_eq])
theorem w_pattern_byDigits (n d : Nat) (t0 : Int) (h : AHeap) : world n (d + 1) 63 [.int .u8 t0] h = gcR h (pattern_byDigits (world n d) n t0 h) :=
 Eq.trans (b := gcR h (pattern_byDigits_fn (world n d) n [.int .u8 t0] h)) (by kernel_rfl) (by rw [pattern_byDigits_fn_eq])
theorem w_pattern_short (n d : Nat) (t0 : Int) (h : AHeap) : world n (d + 1) 65 [.int .u8 t0] h = gcR h (pattern_short (world n d) n t0 h) :=
 Eq.trans (b := gcR h (pattern_short_fn (world n d) n [.int .u8 t0] h)) (by kernel_rfl) (by rw [pattern_short_fn_eq])
theorem w_pattern_plain (n d : Nat) (t0 : Int) (h : AHeap) : world n (d + 1) 56 [.int .u8 t0] h = gcR h (pattern_plain (world n d) n t0 h) :=
 Eq.trans (b := gcR h (pattern_plain_fn (world n d) n [.int .u8 t0] h)) (by kernel_rfl) (by rw [pattern_plain_fn_eq])
theorem w_strings_Builder_WriteByte (n d : Nat) (t0 : AV) (t1 : Int) (h : AHeap) : world n (d + 1) 50 [t0, .int .u8 t1] h = strings_Builder_WriteByte (world n d) n t0 t1 h :=
 Eq.trans (b := strings_Builder_WriteByte_fn (world n d) n [t0, .int .u8 t1] h) (by kernel_rfl) (by rw [strings_Builder_WriteByte_fn_eq])
theorem w_strings_Builder_Len (n d : Nat) (t0 : AV) (h : AHeap) : world n (d + 1) 48 [t0] h = strings_Builder_Len (world n d) n t0 h :=
 Eq.trans (b := strings_Builder_Len_fn (world n d) n [t0] h) (by kernel_rfl) (by rw [strings_Builder_Len_fn_eq])
theorem w_strings_Builder_String (n d : Nat) (t0 : AV) (h : AHeap) : world n (d + 1) 52 [t0] h = strings_Builder_String (world n d) n t0 h :=
 Eq.trans (b := strings_Builder_String_fn (world n d) n [t0] h) (by kernel_rfl) (by rw [strings_Builder_String_fn_eq])
theorem w_strings_Builder_copyCheck (n d : Nat) (t0 : AV) (h : AHeap) : world n (d + 1) 54 [t0] h = strings_Builder_copyCheck (world n d) n t0 h :=
 Eq.trans (b := strings_Builder_copyCheck_fn (world n d) n [t0] h) (by kernel_rfl) (by rw [strings_Builder_copyCheck_fn_eq])
theorem w_lex_Lex (n d : Nat) (t0 : Bytes) (h : AHeap) : world n (d + 1) 9 [strA t0] h = gcR h (lex_Lex (world n d) n t0 h) :=
 Eq.trans (b := gcR h (lex_Lex_fn (world n d) n [strA t0] h)) (by kernel_rfl) (by rw [lex_Lex_fn_eq])
theorem w_lex_lexer_line (n d : Nat) (t0 : AV) (h : AHeap) : world n (d + 1) 13 [t0] h = lex_lexer_line (world n d) n t0 h :=
 Eq.trans (b := lex_lexer_line_fn (world n d) n [t0] h) (by kernel_rfl) (by rw [lex_lexer_line_fn_eq])
theorem w_lex_lexer_skipBlanks (n d : Nat) (t0 : AV) (h : AHeap) : world n (d + 1) 21 [t0] h = lex_lexer_skipBlanks (world n d) n t0 h :=
 Eq.trans (b := lex_lexer_skipBlanks_fn (world n d) n [t0] h) (by kernel_rfl) (by rw [lex_lexer_skipBlanks_fn_eq])
theorem w_lex_lexer_skipBlanks_1 (n d : Nat) (t0 : Int) (h : AHeap) : world n (d + 1) 32 [.int .u8 t0] h = gcR h (lex_lexer_skipBlanks_1 (world n d) n t0 h) :=
 Eq.trans (b := gcR h (lex_lexer_skipBlanks_1_fn (world n d) n [.int .u8 t0] h)) (by kernel_rfl) (by rw [lex_lexer_skipBlanks_1_fn_eq])
theorem w_lex_lexer_skip (n d : Nat) (t0 : AV) (t1 : AV) (h : AHeap) : world n (d + 1) 30 [t0, t1] h = lex_lexer_skip (world n d) n t0 t1 h :=
 Eq.trans (b := lex_lexer_skip_fn (world n d) n [t0, t1] h) (by kernel_rfl) (by rw [lex_lexer_skip_fn_eq])
theorem w_lex_lexer_lineEnds (n d : Nat) (t0 : AV) (h : AHeap) : world n (d + 1) 22 [t0] h = lex_lexer_lineEnds (world n d) n t0 h :=
 Eq.trans (b := lex_lexer_lineEnds_fn (world n d) n [t0] h) (by kernel_rfl) (by rw [lex_lexer_lineEnds_fn_eq])
theorem w_lex_lexer_token (n d : Nat) (t0 : AV) (h : AHeap) : world n (d + 1) 23 [t0] h = lex_lexer_token (world n d) n t0 h :=
 Eq.trans (b := lex_lexer_token_fn (world n d) n [t0] h) (by kernel_rfl) (by rw [lex_lexer_token_fn_eq])
theorem w_lex_read (n d : Nat) (t0 : Bytes) (t1 : Int) (h : AHeap) : world n (d + 1) 33 [strA t0, .int .i64 t1] h = gcR h (lex_read (world n d) n t0 t1 h) :=
 Eq.trans (b := gcR h (lex_read_fn (world n d) n [strA t0, .int .i64 t1] h)) (by kernel_rfl) (by rw [lex_read_fn_eq])
theorem w_lex_readWord (n d : Nat) (t0 : Bytes) (t1 : Int) (h : AHeap) : world n (d + 1) 37 [strA t0, .int .i64 t1] h = gcR h (lex_readWord (world n d) n t0 t1 h) :=
 Eq.trans (b := gcR h (lex_readWord_fn (world n d) n [strA t0, .int .i64 t1] h)) (by kernel_rfl) (by rw [lex_readWord_fn_eq])
theorem w_lex_wordEnd (n d : Nat) (t0 : Bytes) (t1 : Int) (h : AHeap) : world n (d + 1) 17 [strA t0, .int .i64 t1] h = gcR h (lex_wordEnd (world n d) n t0 t1 h) :=
 Eq.trans (b := gcR h (lex_wordEnd_fn (world n d) n [strA t0, .int .i64 t1] h)) (by kernel_rfl) (by rw [lex_wordEnd_fn_eq])
theorem w_lex_wordEnd_1 (n d : Nat) (t0 : Int) (h : AHeap) : world n (d + 1) 28 [.int .u8 t0] h = gcR h (lex_wordEnd_1 (world n d) n t0 h) :=
 Eq.trans (b := gcR h (lex_wordEnd_1_fn (world n d) n [.int .u8 t0] h)) (by kernel_rfl) (by rw [lex_wordEnd_1_fn_eq])
theorem w_lex_readText (n d : Nat) (t0 : Bytes) (t1 : Int) (h : AHeap) : world n (d + 1) 39 [strA t0, .int .i64 t1] h = gcR h (lex_readText (world n d) n t0 t1 h) :=
 Eq.trans (b := gcR h (lex_readText_fn (world n d) n [strA t0, .int .i64 t1] h)) (by kernel_rfl) (by rw [lex_readText_fn_eq])
theorem w_lex_readNumber (n d : Nat) (t0 : Bytes) (t1 : Int) (h : AHeap) : world n (d + 1) 38 [strA t0, .int .i64 t1] h = gcR h (lex_readNumber (world n d) n t0 t1 h) :=
 Eq.trans (b := gcR h (lex_readNumber_fn (world n d) n [strA t0, .int .i64 t1] h)) (by kernel_rfl) (by rw [lex_readNumber_fn_eq])
theorem w_lex_run (n d : Nat) (t0 : Bytes) (t1 : Int) (t2 : Int) (t3 : AV) (h : AHeap) : world n (d + 1) 27 [strA t0, .int .i64 t1, .int .i64 t2, t3] h = lex_run (world n d) n t0 t1 t2 t3 h :=
 Eq.trans (b := lex_run_fn (world n d) n [strA t0, .int .i64 t1, .int .i64 t2, t3] h) (by kernel_rfl) (by rw [lex_run_fn_eq])
theorem w_lex_small (n d : Nat) (t0 : Int) (h : AHeap) : world n (d + 1) 15 [.int .u8 t0] h = gcR h (lex_small (world n d) n t0 h) :=
 Eq.trans (b := gcR h (lex_small_fn (world n d) n [.int .u8 t0] h)) (by kernel_rfl) (by rw [lex_small_fn_eq])
theorem w_lex_digit (n d : Nat) (t0 : Int) (h : AHeap) : world n (d + 1) 29 [.int .u8 t0] h = gcR h (lex_digit (world n d) n t0 h) :=
 Eq.trans (b := gcR h (lex_digit_fn (world n d) n [.int .u8 t0] h)) (by kernel_rfl) (by rw [lex_digit_fn_eq])
theorem w_lex_blank (n d : Nat) (t0 : Int) (h : AHeap) : world n (d + 1) 31 [.int .u8 t0] h = gcR h (lex_blank (world n d) n t0 h) :=
 Eq.trans (b := gcR h (lex_blank_fn (world n d) n [.int .u8 t0] h)) (by kernel_rfl) (by rw [lex_blank_fn_eq])
end Go.Proofs.Ytjopejiooipmkaa

namespace Go.Proofs.Ytjopejiooipmkaa
open Go.RowKit Abs
def smallB (c : Nat) : Bool := decide (97 ≤ (c : Int)) && decide ((c : Int) ≤ 122)
def digB (c : Nat) : Bool := decide (48 ≤ (c : Int)) && decide ((c : Int) ≤ 57)
def wordB (c : Nat) : Bool := smallB c || (digB c || (((c : Int) == 95) || ((c : Int) == 45)))
def blankB (c : Nat) : Bool := ((c : Int) == 32) || ((c : Int) == 9)
def restB (c : Nat) : Bool := (c : Int) != 10
/-- how many bytes of a kind a text begins with -/
def spanN (f : Nat → Bool) : Bytes → Nat
 | [] => 0
 | a :: w => if f a.toNat = true then spanN f w + 1 else 0
theorem span_le (f : Nat → Bool) : ∀ w : Bytes, spanN f w ≤ w.length
 | [] => Nat.le_refl _
 | a :: w => by
  have := span_le f w
  unfold spanN
  split <;> simp <;> omega
theorem span_lt {f : Nat → Bool} : ∀ {w : Bytes} {i : Nat} (_ : i < spanN f w) (hl : i < w.length), f (w[i]).toNat = true
 | [], i, h, hl => by simp at hl
 | a :: w, i, h, hl => by
  unfold spanN at h
  split at h
  ·rename_i ha
   cases i with
   | zero => exact ha
   | succ i => exact span_lt (w := w) (by omega) (by simpa using hl)
  ·omega
theorem span_stop {f : Nat → Bool} : ∀ {w : Bytes} {i : Nat} (_ : i = spanN f w) (hl : i < w.length), f (w[i]).toNat = false
 | [], i, h, hl => by simp at hl
 | a :: w, i, h, hl => by
  unfold spanN at h
  split at h
  ·subst h
   exact span_stop (w := w) rfl (by simpa using hl)
  ·rename_i ha
   subst h
   simpa using ha
section
variable {n d p c : Nat} {h h0 : AHeap} {u : Bytes} {Q : ARes → AHeap → Prop}
theorem small_w (h : AHeap) : world n (d + 1) 15 [.int .u8 (c : Int)] h = some (.ret (.bool (smallB c)), h) := by
 have : lex_small (world n d) n (c : Int) h = some (.ret (.bool (smallB c)), h) := by
  apply Wp.eq
  unfold lex_small
  by_cases h1 : (97 : Int) ≤ c
  ·repeat (first | (with_reducible refine Wp.join1 (fun _ _ => ?_)) | (with_reducible refine Wp.lett ?_) | ((with_reducible refine Wp.ift ?_ ?_); ((with_reducible apply decide_eq_true); omega)) | (with_reducible refine Wp.go1 (by assumption) ?_))
   exact Wp.ret ⟨by simp [smallB]; omega, rfl⟩
  ·repeat (first | (with_reducible refine Wp.join1 (fun _ _ => ?_)) | (with_reducible refine Wp.lett ?_) | ((with_reducible refine Wp.iff ?_ ?_); ((with_reducible apply decide_eq_false); omega)) | (with_reducible refine Wp.go1 (by assumption) ?_))
   exact Wp.ret ⟨by simp [smallB]; omega, rfl⟩
 rw [w_lex_small, this, gcR_self]
theorem digit_w (h : AHeap) : world n (d + 1) 29 [.int .u8 (c : Int)] h = some (.ret (.bool (digB c)), h) := by
 have : lex_digit (world n d) n (c : Int) h = some (.ret (.bool (digB c)), h) := by
  apply Wp.eq
  unfold lex_digit
  by_cases h1 : (48 : Int) ≤ c
  ·repeat (first | (with_reducible refine Wp.join1 (fun _ _ => ?_)) | (with_reducible refine Wp.lett ?_) | ((with_reducible refine Wp.ift ?_ ?_); ((with_reducible apply decide_eq_true); omega)) | (with_reducible refine Wp.go1 (by assumption) ?_))
   exact Wp.ret ⟨by simp [digB]; omega, rfl⟩
  ·repeat (first | (with_reducible refine Wp.join1 (fun _ _ => ?_)) | (with_reducible refine Wp.lett ?_) | ((with_reducible refine Wp.iff ?_ ?_); ((with_reducible apply decide_eq_false); omega)) | (with_reducible refine Wp.go1 (by assumption) ?_))
   exact Wp.ret ⟨by simp [digB]; omega, rfl⟩
 rw [w_lex_digit, this, gcR_self]
theorem blank_w (h : AHeap) : world n (d + 1) 31 [.int .u8 (c : Int)] h = some (.ret (.bool (blankB c)), h) := by
 have : lex_blank (world n d) n (c : Int) h = some (.ret (.bool (blankB c)), h) := by
  apply Wp.eq
  unfold lex_blank
  by_cases h1 : (c : Int) = 32
  ·repeat (first | (with_reducible refine Wp.join1 (fun _ _ => ?_)) | (with_reducible refine Wp.lett ?_) | ((with_reducible refine Wp.ift ?_ ?_); ((with_reducible apply beq_t); omega)) | (with_reducible refine Wp.go1 (by assumption) ?_))
   exact Wp.ret ⟨by simp [blankB]; omega, rfl⟩
  ·repeat (first | (with_reducible refine Wp.join1 (fun _ _ => ?_)) | (with_reducible refine Wp.lett ?_) | ((with_reducible refine Wp.iff ?_ ?_); ((with_reducible apply beq_f); omega)) | (with_reducible refine Wp.go1 (by assumption) ?_))
   exact Wp.ret ⟨by simp [blankB]; omega, rfl⟩
 rw [w_lex_blank, this, gcR_self]
theorem rest_w (h : AHeap) : world n (d + 1) 32 [.int .u8 (c : Int)] h = some (.ret (.bool (restB c)), h) := by
 rw [w_lex_lexer_skipBlanks_1]
 unfold lex_lexer_skipBlanks_1
 rw [lett_eq, gcR_self]
 rfl
theorem word_w (h : AHeap) : world n (d + 2) 28 [.int .u8 (c : Int)] h = some (.ret (.bool (wordB c)), h) := by
 have : lex_wordEnd_1 (world n (d + 1)) n (c : Int) h = some (.ret (.bool (wordB c)), h) := by
  apply Wp.eq
  unfold lex_wordEnd_1
  have hs := small_w (n := n) (d := d) (c := c) h
  have hd := digit_w (n := n) (d := d) (c := c) h
  unfold wordB
  cases h1 : smallB c with
  | true =>
   rw [h1] at hs
   repeat (first | (with_reducible refine Wp.join1 (fun _ _ => ?_)) | ((with_reducible apply Wp.obind); (with_reducible exact avBool_bool _)) | ((with_reducible refine Wp.ift ?_ ?_); (with_reducible rfl)) | ((with_reducible apply Wp.callN); (with_reducible assumption)) | (with_reducible refine Wp.go1 (by assumption) ?_))
   exact Wp.ret ⟨rfl, rfl⟩
  | false =>
   rw [h1] at hs
   cases h2 : digB c with
   | true =>
    rw [h2] at hd
    repeat (first | (with_reducible refine Wp.join1 (fun _ _ => ?_)) | ((with_reducible apply Wp.obind); (with_reducible exact avBool_bool _)) | ((with_reducible refine Wp.ift ?_ ?_); (with_reducible rfl)) | ((with_reducible refine Wp.iff ?_ ?_); (with_reducible rfl)) | ((with_reducible apply Wp.callN); (with_reducible assumption)) | (with_reducible refine Wp.go1 (by assumption) ?_))
    exact Wp.ret ⟨rfl, rfl⟩
   | false =>
    rw [h2] at hd
    by_cases h3 : (c : Int) = 95
    ·repeat (first | (with_reducible refine Wp.join1 (fun _ _ => ?_)) | (with_reducible refine Wp.lett ?_) | ((with_reducible apply Wp.obind); (with_reducible exact avBool_bool _)) | ((with_reducible refine Wp.ift ?_ ?_); ((with_reducible apply beq_t); omega)) | ((with_reducible refine Wp.iff ?_ ?_); (with_reducible rfl)) | ((with_reducible apply Wp.callN); (with_reducible assumption)) | (with_reducible refine Wp.go1 (by assumption) ?_))
     exact Wp.ret ⟨by simp [h3], rfl⟩
    ·repeat (first | (with_reducible refine Wp.join1 (fun _ _ => ?_)) | (with_reducible refine Wp.lett ?_) | ((with_reducible apply Wp.obind); (with_reducible exact avBool_bool _)) | ((with_reducible refine Wp.iff ?_ ?_); first | (with_reducible rfl) | ((with_reducible apply beq_f); omega)) | ((with_reducible apply Wp.callN); (with_reducible assumption)) | (with_reducible refine Wp.go1 (by assumption) ?_))
     exact Wp.ret ⟨by simp; omega, rfl⟩
 rw [w_lex_wordEnd_1, this, gcR_self]
theorem run_loop {F : AV} {f : Nat → Bool} (hF : ∀ (c : Nat) (H : AHeap), dynC Try.prog (world n d) F [.int .u8 (c : Int)] H = some (.ret (.bool (f c)), H)) (hu : u.length ≤ 1000000) {most : Nat} {k5 : Int → AHeap → R}
  (hk : spanN f (u.drop p) ≤ most → Wp (k5 ((p + spanN f (u.drop p) : Nat) : Int) h) Q) (hq : most < spanN f (u.drop p) → Q (.ret (.tup [.int .i64 ((p + most : Nat) : Int), .int .i64 3])) h) :
  ∀ (fu i : Nat), spanN f (u.drop p) < fu + i → i ≤ spanN f (u.drop p) → i ≤ most → Wp (lex_run_L0 (world n d) u (p : Int) (most : Int) F k5 fu ((p + i : Nat) : Int) h) Q
 | 0, i, hf, hi, hm => by omega
 | fu + 1, i, hf, hi, hm => by
  rw [lex_run_L0_s]
  unfold lex_run_L0b
  have lu := lenS_nat u
  have hle := span_le f (u.drop p)
  rw [List.length_drop] at hle
  by_cases hlt : i < spanN f (u.drop p)
  ·have hl : p + i < u.length := by omega
   have hx : idxS u ((p + i : Nat) : Int) = some ((u[p + i]).toNat : Int) := idxS_nat hl
   have ht := span_lt hlt (by rw [List.length_drop]; omega)
   rw [List.getElem_drop] at ht
   have hc := hF (u[p + i]).toNat h
   rw [ht] at hc
   by_cases hmo : i = most
   ·repeat (first | (with_reducible refine Wp.join1 (fun _ _ => ?_)) | ((with_reducible refine Wp.lettw ?_ ?_ ?_); omega; omega) | (with_reducible refine Wp.lett ?_) | ((with_reducible apply Wp.obind); (with_reducible first | exact hx | exact avBool_bool _)) | ((with_reducible refine Wp.ift ?_ ?_); first | (with_reducible rfl) | ((with_reducible first | apply decide_eq_true | apply beq_t); omega)) | ((with_reducible apply Wp.callN); (with_reducible exact hc)) | (with_reducible refine Wp.go1 (by assumption) ?_))
    rw [hmo]
    exact Wp.ret (hq (by omega))
   ·repeat (first | (with_reducible refine Wp.join1 (fun _ _ => ?_)) | ((with_reducible refine Wp.lettw ?_ ?_ ?_); omega; omega) | (with_reducible refine Wp.lett ?_) | ((with_reducible apply Wp.obind); (with_reducible first | exact hx | exact avBool_bool _)) | ((with_reducible refine Wp.ift ?_ ?_); first | (with_reducible rfl) | ((with_reducible first | apply decide_eq_true | apply beq_t); omega)) | ((with_reducible refine Wp.iff ?_ ?_); ((with_reducible apply beq_f); omega)) | ((with_reducible apply Wp.callN); (with_reducible exact hc)) | (with_reducible refine Wp.go1 (by assumption) ?_))
    rw [show ((p + i : Nat) : Int) + 1 = ((p + (i + 1) : Nat) : Int) by omega]
    exact run_loop hF hu hk hq fu (i + 1) (by omega) (by omega) (by omega)
  ·have hi' : i = spanN f (u.drop p) := by omega
   have hk' := hk (by omega)
   rw [← hi'] at hk'
   by_cases hl : p + i < u.length
   ·have hx : idxS u ((p + i : Nat) : Int) = some ((u[p + i]).toNat : Int) := idxS_nat hl
    have ht := span_stop hi' (by rw [List.length_drop]; omega)
    rw [List.getElem_drop] at ht
    have hc := hF (u[p + i]).toNat h
    rw [ht] at hc
    repeat (first | (with_reducible refine Wp.join1 (fun _ _ => ?_)) | (with_reducible refine Wp.lett ?_) | ((with_reducible apply Wp.obind); (with_reducible first | exact hx | exact avBool_bool _)) | ((with_reducible refine Wp.ift ?_ ?_); ((with_reducible apply decide_eq_true); omega)) | ((with_reducible refine Wp.iff ?_ ?_); (with_reducible rfl)) | ((with_reducible apply Wp.callN); (with_reducible exact hc)) | (with_reducible refine Wp.go1 (by assumption) ?_))
    exact hk'
   ·repeat (first | (with_reducible refine Wp.join1 (fun _ _ => ?_)) | (with_reducible refine Wp.lett ?_) | ((with_reducible refine Wp.iff ?_ ?_); first | (with_reducible rfl) | ((with_reducible apply decide_eq_false); omega)) | (with_reducible refine Wp.go1 (by assumption) ?_))
    exact hk'
/-- what run hands back -/
def runV (f : Nat → Bool) (u : Bytes) (p most : Nat) : AV := if spanN f (u.drop p) ≤ most then .tup [.int .i64 ((p + spanN f (u.drop p) : Nat) : Int), .int .i64 0] else .tup [.int .i64 ((p + most : Nat) : Int), .int .i64 3]
theorem run_w {F : AV} {f : Nat → Bool} (hF : ∀ (c : Nat) (H : AHeap), dynC Try.prog (world n d) F [.int .u8 (c : Int)] H = some (.ret (.bool (f c)), H)) (hu : u.length ≤ 1000000) (hn : u.length < n) (most : Nat) (h : AHeap) :
  world n (d + 1) 27 [strA u, .int .i64 (p : Int), .int .i64 (most : Int), F] h = some (.ret (runV f u p most), h) := by
 apply Wp.eq
 rw [w_lex_run]
 unfold lex_run
 have hle := span_le f (u.drop p)
 rw [List.length_drop] at hle
 repeat ((with_reducible refine Wp.join1 (fun _ _ => ?_)))
 refine run_loop (p := p) hF hu ?_ ?_ n 0 (by omega) (by omega) (by omega)
 ·intro hs
  repeat ((with_reducible refine Wp.go1 (by assumption) ?_))
  exact Wp.ret ⟨by unfold runV; rw [if_pos hs], rfl⟩
 ·intro hs
  exact ⟨by unfold runV; rw [if_neg (by omega)], rfl⟩
end
end Go.Proofs.Ytjopejiooipmkaa

namespace Go.Proofs.Ytjopejiooipmkaa
open Go.RowKit Abs
abbrev TLex : Nat := 34
theorem dynF (f : Nat) (call : CallF) (x : AV) (h : AHeap) (e : callV Try.prog h [x] (some (AV.fn f [] [])) = some (.call f [x], h)) : dynC Try.prog call (AV.fn f [] []) [x] h = call f [x] h := by
 unfold dynC
 rw [e]
section
variable {n d p c b : Nat} {h h0 : AHeap} {u : Bytes} {Q : ARes → AHeap → Prop} {v : AV} {S : List Nat} {ys : List RowT}
theorem dyn_blank (c : Nat) (h : AHeap) : dynC Try.prog (world n (d + 1)) (AV.fn 31 [] []) [.int .u8 (c : Int)] h = some (.ret (.bool (blankB c)), h) := (dynF _ _ _ _ (by kernel_rfl)).trans (blank_w h)
theorem dyn_digit (c : Nat) (h : AHeap) : dynC Try.prog (world n (d + 1)) (AV.fn 29 [] []) [.int .u8 (c : Int)] h = some (.ret (.bool (digB c)), h) := (dynF _ _ _ _ (by kernel_rfl)).trans (digit_w h)
theorem dyn_rest (c : Nat) (h : AHeap) : dynC Try.prog (world n (d + 1)) (AV.fn 32 [] []) [.int .u8 (c : Int)] h = some (.ret (.bool (restB c)), h) := (dynF _ _ _ _ (by kernel_rfl)).trans (rest_w h)
theorem dyn_word (c : Nat) (h : AHeap) : dynC Try.prog (world n (d + 2)) (AV.fn 28 [] []) [.int .u8 (c : Int)] h = some (.ret (.bool (wordB c)), h) := (dynF _ _ _ _ (by kernel_rfl)).trans (word_w h)
/-- the line ends here -/
def endsB (u : Bytes) (p : Nat) : Bool := match at? u p with
 | none => true
 | some c => (c : Int) == 10
theorem lineEnds_w (Mx : Mem S h0 h ((b, TLex, [strA u, .int .i64 (p : Int), v]) :: ys)) : world n (d + 1) 22 [.ptr b 0] h = some (.ret (.bool (endsB u p)), h) := by
 apply Wp.eq
 rw [w_lex_lexer_lineEnds]
 unfold lex_lexer_lineEnds
 have lu := lenS_nat u
 by_cases hl : p < u.length
 ·have hx : idxS u (p : Int) = some ((u[p]).toNat : Int) := idxS_nat hl
  repeat (first | ((with_reducible apply Wp.obind); (with_reducible first | exact avInt_int _ _ | exact avStr_str _ | exact nilC_ptr _ _ | exact fldP_ptr _ _ _)) | ((with_reducible apply Wp.ld0 Mx); rfl) | (with_reducible refine Wp.join1 (fun _ _ => ?_)) | (with_reducible refine Wp.lett ?_) | ((with_reducible apply Wp.obind); (with_reducible exact hx)) | ((with_reducible refine Wp.iff ?_ ?_); ((with_reducible apply decide_eq_false); omega)) | (with_reducible refine Wp.go1 (by assumption) ?_))
  exact Wp.ret ⟨by unfold endsB; rw [at?_lt hl], rfl⟩
 ·repeat (first | ((with_reducible apply Wp.obind); (with_reducible first | exact avInt_int _ _ | exact avStr_str _ | exact nilC_ptr _ _ | exact fldP_ptr _ _ _)) | ((with_reducible apply Wp.ld0 Mx); rfl) | (with_reducible refine Wp.join1 (fun _ _ => ?_)) | (with_reducible refine Wp.lett ?_) | ((with_reducible refine Wp.ift ?_ ?_); ((with_reducible apply decide_eq_true); omega)) | (with_reducible refine Wp.go1 (by assumption) ?_))
  exact Wp.ret ⟨by unfold endsB; rw [at?_ge (by omega)], rfl⟩
theorem skip_w {F : AV} {f : Nat → Bool} (Mx : Mem S h0 h ((b, TLex, [strA u, .int .i64 (p : Int), v]) :: ys)) (hF : ∀ (c : Nat) (H : AHeap), dynC Try.prog (world n d) F [.int .u8 (c : Int)] H = some (.ret (.bool (f c)), H)) (hu : u.length ≤ 1000000) (hn : u.length < n) (hp : p ≤ u.length) :
  ∃ h', world n (d + 2) 30 [.ptr b 0, F] h = some (.ret (.tup []), h') ∧ Mem S h0 h' ((b, TLex, [strA u, .int .i64 ((p + spanN f (u.drop p) : Nat) : Int), v]) :: ys) := by
 apply Wp.ex
 rw [w_lex_lexer_skip]
 unfold lex_lexer_skip
 have lu := lenS_nat u
 have hr := run_w (p := p) hF hu hn u.length h
 have hle := span_le f (u.drop p)
 rw [List.length_drop] at hle
 unfold runV at hr
 rw [if_pos (by omega), ← lu] at hr
 repeat (first | ((with_reducible apply Wp.obind); (with_reducible first | exact avInt_int _ _ | exact avStr_str _ | exact nilC_ptr _ _ | exact fldP_ptr _ _ _)) | ((with_reducible apply Wp.ld0 Mx); rfl) | ((with_reducible apply Wp.ms0 Mx); exact Nat.le_of_ble_eq_true rfl; rfl; intro _ Mz; clear Mx; have Mx := Mz; clear Mz) | ((with_reducible apply Wp.obind); (with_reducible first | exact extT_0 _ _ | exact extT_1 _ _ _)) | ((with_reducible apply Wp.callN); (with_reducible exact hr)))
 exact Wp.ret ⟨rfl, Mx⟩
/-- past blanks, and a remark behind them -/
def skipP (u : Bytes) (p : Nat) : Nat := if at? u (p + spanN blankB (u.drop p)) = some 35 then p + spanN blankB (u.drop p) + spanN restB (u.drop (p + spanN blankB (u.drop p))) else p + spanN blankB (u.drop p)
theorem skipP_le (hp : p ≤ u.length) : skipP u p ≤ u.length ∧ p ≤ skipP u p := by
 have h1 := span_le blankB (u.drop p)
 have h2 := span_le restB (u.drop (p + spanN blankB (u.drop p)))
 rw [List.length_drop] at h1 h2
 unfold skipP
 split <;> omega
theorem skipBlanks_w (Mx : Mem S h0 h ((b, TLex, [strA u, .int .i64 (p : Int), v]) :: ys)) (hu : u.length ≤ 1000000) (hn : u.length < n) (hp : p ≤ u.length) :
  ∃ h', world n (d + 4) 21 [.ptr b 0] h = some (.ret (.tup []), h') ∧ Mem S h0 h' ((b, TLex, [strA u, .int .i64 (skipP u p : Int), v]) :: ys) := by
 apply Wp.ex
 rw [w_lex_lexer_skipBlanks]
 unfold lex_lexer_skipBlanks
 have lu := lenS_nat u
 obtain ⟨h1, e1, M1⟩ := skip_w (d := d + 1) Mx (fun c H => dyn_blank c H) hu hn hp
 clear Mx
 have Mx := M1
 have h1 := span_le blankB (u.drop p)
 rw [List.length_drop] at h1
 have le := lineEnds_w (n := n) (d := d + 2) Mx
 unfold skipP
 obtain ⟨q, hq⟩ : ∃ q, q = p + spanN blankB (u.drop p) := ⟨_, rfl⟩
 rw [← hq] at Mx le ⊢
 by_cases hl : q < u.length
 ·have hx : idxS u (q : Int) = some ((u[q]).toNat : Int) := idxS_nat hl
  unfold endsB at le
  rw [at?_lt hl] at le
  dsimp only at le
  by_cases h35 : (u[q]).toNat = 35
  ·rw [if_pos (by rw [at?_lt hl, h35])]
   have lf : (((u[q]).toNat : Int) == 10) = false := by rw [h35]; rfl
   rw [lf] at le
   obtain ⟨h2, e2, M2⟩ := skip_w (d := d + 1) Mx (fun c H => dyn_rest c H) hu hn (by omega)
   clear M1
   repeat (first | ((with_reducible apply Wp.obind); (with_reducible first | exact avInt_int _ _ | exact avBool_bool _ | exact avStr_str _ | exact nilC_ptr _ _ | exact fldP_ptr _ _ _)) | ((with_reducible apply Wp.ld0 Mx); rfl) | (with_reducible first | refine Wp.join0 (fun _ _ => ?_) | refine Wp.join1 (fun _ _ => ?_)) | (with_reducible refine Wp.lett ?_) | ((with_reducible apply Wp.obind); (with_reducible exact hx)) | ((with_reducible refine Wp.ift ?_ ?_); first | (with_reducible exact Bool.not_false) | ((with_reducible apply beq_t); omega)) | ((with_reducible apply Wp.callN); (with_reducible first | exact e1 | exact le | exact e2)) | (with_reducible first | refine Wp.go0 (by assumption) ?_ | refine Wp.go1 (by assumption) ?_))
   exact Wp.ret ⟨rfl, M2⟩
  ·rw [if_neg (by rw [at?_lt hl]; simp; exact h35)]
   cases lf : (((u[q]).toNat : Int) == 10) with
   | true =>
    rw [lf] at le
    repeat (first | ((with_reducible apply Wp.obind); (with_reducible exact avBool_bool _)) | (with_reducible first | refine Wp.join0 (fun _ _ => ?_) | refine Wp.join1 (fun _ _ => ?_)) | (with_reducible refine Wp.lett ?_) | ((with_reducible refine Wp.iff ?_ ?_); (with_reducible first | rfl | exact Bool.not_true)) | ((with_reducible apply Wp.callN); (with_reducible first | exact e1 | exact le)) | (with_reducible first | refine Wp.go0 (by assumption) ?_ | refine Wp.go1 (by assumption) ?_))
    exact Wp.ret ⟨rfl, Mx⟩
   | false =>
    rw [lf] at le
    repeat (first | ((with_reducible apply Wp.obind); (with_reducible first | exact avInt_int _ _ | exact avBool_bool _ | exact avStr_str _ | exact nilC_ptr _ _ | exact fldP_ptr _ _ _)) | ((with_reducible apply Wp.ld0 Mx); rfl) | (with_reducible first | refine Wp.join0 (fun _ _ => ?_) | refine Wp.join1 (fun _ _ => ?_)) | (with_reducible refine Wp.lett ?_) | ((with_reducible apply Wp.obind); (with_reducible exact hx)) | ((with_reducible refine Wp.ift ?_ ?_); (with_reducible exact Bool.not_false)) | ((with_reducible refine Wp.iff ?_ ?_); ((with_reducible apply beq_f); omega)) | ((with_reducible apply Wp.callN); (with_reducible first | exact e1 | exact le)) | (with_reducible first | refine Wp.go0 (by assumption) ?_ | refine Wp.go1 (by assumption) ?_))
    exact Wp.ret ⟨rfl, Mx⟩
 ·unfold endsB at le
  rw [at?_ge (by omega)] at le
  dsimp only at le
  rw [if_neg (by rw [at?_ge (by omega)]; simp)]
  repeat (first | ((with_reducible apply Wp.obind); (with_reducible exact avBool_bool _)) | (with_reducible first | refine Wp.join0 (fun _ _ => ?_) | refine Wp.join1 (fun _ _ => ?_)) | (with_reducible refine Wp.lett ?_) | ((with_reducible refine Wp.iff ?_ ?_); (with_reducible first | rfl | exact Bool.not_true)) | ((with_reducible apply Wp.callN); (with_reducible first | exact e1 | exact le)) | (with_reducible first | refine Wp.go0 (by assumption) ?_ | refine Wp.go1 (by assumption) ?_))
  exact Wp.ret ⟨rfl, Mx⟩
end
end Go.Proofs.Ytjopejiooipmkaa

namespace Go.Proofs.Ytjopejiooipmkaa
open Go.RowKit Abs
section
variable {n d p : Nat} {h : AHeap} {u : Bytes} {Q : ARes → AHeap → Prop}
end
end Go.Proofs.Ytjopejiooipmkaa

namespace Go.Proofs.Ytjopejiooipmkaa
open Go.RowKit Abs

theorem Wp.panK {Q : ARes → AHeap → Prop} {h : AHeap} {t : TypeId} {v : AV} (hq : Q (.panic (.ifc t v)) h) : Wp (panK (.ifc t v) h) Q := ⟨_, _, rfl, hq⟩
noncomputable def rdP (u : Bytes) (p : Nat) : List AV := [strA u, .int .i64 (p : Int)]
abbrev Rd (h : AHeap) (b : Nat) (u : Bytes) (p : Nat) : Prop := RowH h b 61 (rdP u p)
/-- what a reader has met -/
def PanA (e : Int) (q : Nat) : AV := .ifc 65 (.agg [.int .i64 e, .int .i64 (q : Int)])
theorem bldWrong (e q : Int) : bldS Try.prog 65 [(0, .agg [.int .i64 e, .int .i64 q])] = some [.int .i64 e, .int .i64 q] := by kernel_rfl
/-- a step of a reader: it comes to a value, or ends with what it has met -/
def Step (b : Nat) (u : Bytes) (h : AHeap) (x : R) : Except (Int × Nat) (AV × Nat) → Prop
 | .ok (v, p) => ∃ h', x = some (.ret v, h') ∧ Rd h' b u p ∧ Tch [b] h h'
 | .error (e, q) => ∃ h' p, x = some (.panic (PanA e q), h') ∧ Rd h' b u p ∧ Tch [b] h h'
section
variable {n d b p : Nat} {h : AHeap} {u : Bytes} {Q : ARes → AHeap → Prop}
theorem ended_r (k : Rd h b u p) : world n (d + 1) 59 [.ptr b 0] h = some (.ret (.bool (decide (p = u.length))), h) := by
 apply Wp.eq
 rw [w_pattern_reader_ended]
 unfold pattern_reader_ended
 have ll := lenS_nat u
 repeat (first | (with_reducible refine Wp.lett ?_) | ((with_reducible apply Wp.obind); first | (with_reducible first | exact avInt_int _ _ | exact avStr_str _ | exact nilC_ptr _ _ | exact fldP_ptr _ _ _) | ((with_reducible apply RowH.cell'); (with_reducible assumption); rfl)))
 refine Wp.ret ⟨?_, rfl⟩
 by_cases hp : p = u.length
 ·rw [beq_t (by omega), decide_eq_true hp]
 ·rw [beq_f (by omega), decide_eq_false hp]
theorem refuse_r (e : Int) (q : Nat) : world n (d + 1) 49 [.int .i64 e, .int .i64 (q : Int)] h = some (.panic (PanA e q), h) := by
 rw [w_pattern_refuse]
 refine (congrArg (gcR h) ?_).trans gcR_self
 unfold pattern_refuse
 rw [bldWrong, obind_val]
 rfl
theorem refuseLast_r (k : Rd h b u (p + 1)) (hp : p + 1 ≤ u.length) (hu : u.length ≤ 1000000) : world n (d + 2) 57 [.ptr b 0] h = some (.panic (PanA 6 p), h) := by
 apply Wp.eq
 rw [w_pattern_reader_refuseLast]
 unfold pattern_reader_refuseLast
 have k0 : RowH h b 61 [strA u, .int .i64 ((p + 1 : Nat) : Int)] := k
 clear k
 have hr := refuse_r (n := n) (d := d) (h := h) 6 p
 rw [show (p : Int) = ((p + 1 : Nat) : Int) - 1 by omega] at hr
 repeat (first | ((with_reducible refine Wp.lettw ?_ ?_ ?_); omega; omega) | ((with_reducible apply Wp.obind); first | (with_reducible first | exact avInt_int _ _ | exact nilC_ptr _ _ | exact fldP_ptr _ _ _) | ((with_reducible apply RowH.cell'); (with_reducible assumption); rfl)))
 exact Wp.callP hr ⟨rfl, rfl⟩
theorem sees_r (k : Rd h b u p) (hp : p ≤ u.length) (c : Nat) : world n (d + 2) 53 [.ptr b 0, .int .u8 (c : Int)] h = some (.ret (.bool (decide (at? u p = some c))), h) := by
 apply Wp.eq
 rw [w_pattern_reader_sees]
 unfold pattern_reader_sees
 have he := ended_r (n := n) (d := d) k
 by_cases hl : p = u.length
 ·rw [decide_eq_true hl] at he
  rw [at?_ge (by omega)]
  repeat (first | (with_reducible refine Wp.join1 (fun _ _ => ?_)) | (with_reducible refine Wp.lett ?_) | ((with_reducible apply Wp.obind); (with_reducible exact avBool_bool _)) | ((with_reducible refine Wp.iff ?_ ?_); (with_reducible exact Bool.not_true)) | ((with_reducible apply Wp.callN); (with_reducible assumption)) | (with_reducible refine Wp.go1 (by assumption) ?_))
  exact Wp.ret ⟨rfl, rfl⟩
 ·rw [decide_eq_false hl] at he
  have hx := idxS_nat (l := u) (i := p) (by omega)
  rw [at?_lt (by omega)]
  repeat (first | (with_reducible refine Wp.join1 (fun _ _ => ?_)) | (with_reducible refine Wp.lett ?_) | ((with_reducible apply Wp.obind); first | (with_reducible first | exact hx | exact avInt_int _ _ | exact avBool_bool _ | exact avStr_str _ | exact nilC_ptr _ _ | exact fldP_ptr _ _ _) | ((with_reducible apply RowH.cell'); (with_reducible assumption); rfl)) | ((with_reducible refine Wp.ift ?_ ?_); (with_reducible exact Bool.not_false)) | ((with_reducible apply Wp.callN); (with_reducible assumption)) | (with_reducible refine Wp.go1 (by assumption) ?_))
  refine Wp.ret ⟨?_, rfl⟩
  by_cases hc : (u[p]'(by omega)).toNat = c
  ·rw [beq_t (by omega), decide_eq_true (by rw [hc])]
  ·rw [beq_f (by omega), decide_eq_false (fun hh => hc (by simpa using hh))]
theorem skips_r (k : Rd h b u p) (hb : b < h.next) (hp : p ≤ u.length) (hu : u.length ≤ 1000000) (c : Nat) : Step b u h (world n (d + 3) 47 [.ptr b 0, .int .u8 (c : Int)] h) (.ok (.bool (decide (at? u p = some c)), if at? u p = some c then p + 1 else p)) := by
 apply Wp.ex
 rw [w_pattern_reader_skips]
 unfold pattern_reader_skips
 have hs := sees_r (n := n) (d := d) k hp c
 have Mx := Mem.one k hb
 by_cases hc : at? u p = some c
 ·rw [decide_eq_true hc] at hs ⊢
  rw [if_pos hc]
  repeat (first | ((with_reducible apply Wp.obind); (with_reducible first | exact avInt_int _ _ | exact avBool_bool _ | exact nilC_ptr _ _ | exact fldP_ptr _ _ _)) | ((with_reducible apply Wp.ld0 Mx); rfl) | ((with_reducible apply Wp.ms0 Mx); exact Nat.le_of_ble_eq_true rfl; rfl; intro _ Mz; clear Mx; have Mx := Mz; clear Mz) | ((with_reducible refine Wp.lettw ?_ ?_ ?_); omega; omega) | (with_reducible refine Wp.lett ?_) | ((with_reducible refine Wp.iff ?_ ?_); (with_reducible exact Bool.not_true)) | ((with_reducible apply Wp.callN); (with_reducible assumption)))
  have e : (rdP u p).set (0 + 1) (.int .i64 ((p : Int) + 1)) = rdP u (p + 1) := by
   rw [show (p : Int) + 1 = ((p + 1 : Nat) : Int) by omega]
   rfl
  rw [e] at Mx
  exact Wp.ret ⟨rfl, Mx.at0.1, Mx.tch⟩
 ·rw [decide_eq_false hc] at hs ⊢
  rw [if_neg hc]
  repeat (first | (with_reducible refine Wp.lett ?_) | ((with_reducible apply Wp.obind); (with_reducible exact avBool_bool _)) | ((with_reducible refine Wp.ift ?_ ?_); (with_reducible exact Bool.not_false)) | ((with_reducible apply Wp.callN); (with_reducible assumption)))
  exact Wp.ret ⟨rfl, k, Tch.refl _ _⟩
theorem next_r (k : Rd h b u p) (hb : b < h.next) (hp : p ≤ u.length) (hu : u.length ≤ 1000000) : Step b u h (world n (d + 2) 55 [.ptr b 0] h) (match at? u p with
  | some c => .ok (.int .u8 (c : Int), p + 1)
  | none => .error (6, p)) := by
 have he := ended_r (n := n) (d := d) k
 by_cases hl : p = u.length
 ·rw [at?_ge (by omega)]
  rw [decide_eq_true hl] at he
  refine ⟨h, p, ?_, k, Tch.refl _ _⟩
  have hr := refuse_r (n := n) (d := d) (h := h) 6 p
  have : Wp (world n (d + 2) 55 [.ptr b 0] h) fun r h' => r = .panic (PanA 6 p) ∧ h' = h := by
   rw [w_pattern_reader_next]
   unfold pattern_reader_next
   repeat (first | (with_reducible refine Wp.join0 (fun _ _ => ?_)) | ((with_reducible apply Wp.obind); first | (with_reducible first | exact avInt_int _ _ | exact avBool_bool _ | exact nilC_ptr _ _ | exact fldP_ptr _ _ _) | ((with_reducible apply RowH.cell'); (with_reducible assumption); rfl)) | ((with_reducible refine Wp.ift ?_ ?_); (with_reducible rfl)) | ((with_reducible first | apply Wp.callN | apply Wp.callK); (with_reducible assumption)))
   exact Wp.callP hr ⟨rfl, rfl⟩
  exact this.eq
 ·rw [decide_eq_false hl] at he
  rw [at?_lt (by omega)]
  show ∃ h', _ ∧ _
  apply Wp.ex
  rw [w_pattern_reader_next]
  unfold pattern_reader_next
  have Mx := Mem.one k hb
  have hx := idxS_nat (l := u) (i := p) (by omega)
  repeat (first | ((with_reducible apply Wp.obind); (with_reducible first | exact avInt_int _ _ | exact avBool_bool _ | exact avStr_str _ | exact nilC_ptr _ _ | exact fldP_ptr _ _ _)) | ((with_reducible apply Wp.ld0 Mx); rfl) | ((with_reducible apply Wp.ms0 Mx); exact Nat.le_of_ble_eq_true rfl; rfl; intro _ Mz; clear Mx; have Mx := Mz; clear Mz) | (with_reducible refine Wp.join0 (fun _ _ => ?_)) | ((with_reducible refine Wp.lettw ?_ ?_ ?_); omega; omega) | ((with_reducible refine Wp.iff ?_ ?_); (with_reducible rfl)) | ((with_reducible apply Wp.callN); (with_reducible assumption)) | (with_reducible refine Wp.go0 (by assumption) ?_))
  have e : (rdP u p).set (0 + 1) (.int .i64 ((p : Int) + 1)) = rdP u (p + 1) := by
   rw [show (p : Int) + 1 = ((p + 1 : Nat) : Int) by omega]
   rfl
  rw [e] at Mx
  have e2 : ((p : Int) + 1) - 1 = (p : Int) := by omega
  rw [e2]
  repeat (((with_reducible apply Wp.obind); (with_reducible exact hx)))
  exact Wp.ret ⟨rfl, Mx.at0.1, Mx.tch⟩
theorem plain_w (c : Nat) : world n (d + 1) 56 [.int .u8 (c : Int)] h = some (.ret (.bool (plainB c)), h) := by
 rw [w_pattern_plain]
 refine (congrArg (gcR h) ?_).trans gcR_self
 apply Wp.eq
 unfold pattern_plain plainB
 by_cases h1 : 32 ≤ c
 ·rw [decide_eq_true h1, Bool.true_and]
  repeat (first | (with_reducible refine Wp.join1 (fun _ _ => ?_)) | (with_reducible refine Wp.lett ?_) | ((with_reducible refine Wp.ift ?_ ?_); ((with_reducible apply decide_eq_true); omega)) | (with_reducible refine Wp.go1 (by assumption) ?_))
  refine Wp.ret ⟨?_, rfl⟩
  by_cases h2 : c ≤ 126
  ·rw [decide_eq_true h2, decide_eq_true (by omega)]
  ·rw [decide_eq_false h2, decide_eq_false (by omega)]
 ·rw [decide_eq_false h1, Bool.false_and]
  repeat (first | (with_reducible refine Wp.join1 (fun _ _ => ?_)) | (with_reducible refine Wp.lett ?_) | ((with_reducible refine Wp.iff ?_ ?_); ((with_reducible apply decide_eq_false); omega)) | (with_reducible refine Wp.go1 (by assumption) ?_))
  exact Wp.ret ⟨rfl, rfl⟩
theorem short_w (c : Nat) : world n (d + 1) 65 [.int .u8 (c : Int)] h = some (.ret (.int .u8 (shortB c : Int)), h) := by
 rw [w_pattern_short]
 refine (congrArg (gcR h) ?_).trans gcR_self
 apply Wp.eq
 unfold pattern_short shortB
 by_cases h1 : c = 34
 ·rw [if_pos (.inl h1)]
  repeat (first | (with_reducible refine Wp.join1 (fun _ _ => ?_)) | (with_reducible refine Wp.lett ?_) | ((with_reducible refine Wp.ift ?_ ?_); first | (with_reducible rfl) | ((with_reducible apply beq_t); omega)) | (with_reducible refine Wp.go1 (by assumption) ?_))
  exact Wp.ret ⟨rfl, rfl⟩
 by_cases h2 : c = 92
 ·rw [if_pos (.inr h2)]
  have q : ((c : Int) == 92) = true := beq_t (by omega)
  repeat (first | (with_reducible refine Wp.join1 (fun _ _ => ?_)) | (with_reducible refine Wp.lett ?_) | ((with_reducible refine Wp.ift ?_ ?_); (with_reducible assumption)) | ((with_reducible refine Wp.iff ?_ ?_); ((with_reducible apply beq_f); omega)) | (with_reducible refine Wp.go1 (by assumption) ?_))
  exact Wp.ret ⟨rfl, rfl⟩
 have q : ((c : Int) == 92) = false := beq_f (by omega)
 rw [if_neg (by omega)]
 by_cases h3 : c = 10
 ·rw [if_pos h3]
  repeat (first | (with_reducible refine Wp.join1 (fun _ _ => ?_)) | (with_reducible refine Wp.lett ?_) | ((with_reducible refine Wp.ift ?_ ?_); ((with_reducible apply beq_t); omega)) | ((with_reducible refine Wp.iff ?_ ?_); first | (with_reducible assumption) | ((with_reducible apply beq_f); omega)) | (with_reducible refine Wp.go1 (by assumption) ?_))
  exact Wp.ret ⟨rfl, rfl⟩
 rw [if_neg h3]
 by_cases h4 : c = 13
 ·rw [if_pos h4]
  repeat (first | (with_reducible refine Wp.join1 (fun _ _ => ?_)) | (with_reducible refine Wp.lett ?_) | ((with_reducible refine Wp.ift ?_ ?_); ((with_reducible apply beq_t); omega)) | ((with_reducible refine Wp.iff ?_ ?_); first | (with_reducible assumption) | ((with_reducible apply beq_f); omega)) | (with_reducible refine Wp.go1 (by assumption) ?_))
  exact Wp.ret ⟨rfl, rfl⟩
 rw [if_neg h4]
 by_cases h5 : c = 9
 ·rw [if_pos h5]
  repeat (first | (with_reducible refine Wp.join1 (fun _ _ => ?_)) | (with_reducible refine Wp.lett ?_) | ((with_reducible refine Wp.ift ?_ ?_); ((with_reducible apply beq_t); omega)) | ((with_reducible refine Wp.iff ?_ ?_); first | (with_reducible assumption) | ((with_reducible apply beq_f); omega)) | (with_reducible refine Wp.go1 (by assumption) ?_))
  exact Wp.ret ⟨rfl, rfl⟩
 rw [if_neg h5]
 repeat (first | (with_reducible refine Wp.join1 (fun _ _ => ?_)) | (with_reducible refine Wp.lett ?_) | ((with_reducible refine Wp.iff ?_ ?_); first | (with_reducible assumption) | ((with_reducible apply beq_f); omega)) | (with_reducible refine Wp.go1 (by assumption) ?_))
 exact Wp.ret ⟨rfl, rfl⟩
theorem byDigits_w (c : Nat) : world n (d + 2) 63 [.int .u8 (c : Int)] h = some (.ret (.bool (byD c)), h) := by
 rw [w_pattern_byDigits]
 refine (congrArg (gcR h) ?_).trans gcR_self
 apply Wp.eq
 unfold pattern_byDigits byD
 have e1 := short_w (n := n) (d := d) (h := h) c
 have e2 := plain_w (n := n) (d := d) (h := h) c
 by_cases h1 : shortB c = 0
 ·rw [decide_eq_true h1, Bool.true_and]
  repeat (first | (with_reducible refine Wp.join1 (fun _ _ => ?_)) | (with_reducible refine Wp.lett ?_) | ((with_reducible apply Wp.obind); (with_reducible first | exact avInt_int _ _ | exact avBool_bool _)) | ((with_reducible refine Wp.ift ?_ ?_); ((with_reducible apply beq_t); omega)) | ((with_reducible apply Wp.callN); (with_reducible assumption)) | (with_reducible refine Wp.go1 (by assumption) ?_))
  exact Wp.ret ⟨rfl, rfl⟩
 ·rw [decide_eq_false h1, Bool.false_and]
  repeat (first | (with_reducible refine Wp.join1 (fun _ _ => ?_)) | (with_reducible refine Wp.lett ?_) | ((with_reducible apply Wp.obind); (with_reducible exact avInt_int _ _)) | ((with_reducible refine Wp.iff ?_ ?_); ((with_reducible apply beq_f); omega)) | ((with_reducible apply Wp.callN); (with_reducible assumption)) | (with_reducible refine Wp.go1 (by assumption) ?_))
  exact Wp.ret ⟨rfl, rfl⟩
end
end Go.Proofs.Ytjopejiooipmkaa

namespace Go.Proofs.Ytjopejiooipmkaa
open Go.RowKit Abs
theorem Step.ok_of {b p : Nat} {u : Bytes} {h : AHeap} {x : R} {v : AV} (k : Wp x fun r h' => r = .ret v ∧ Rd h' b u p ∧ Tch [b] h h') : Step b u h x (.ok (v, p)) := k.ex
theorem Step.err_of {b q : Nat} {e : Int} {u : Bytes} {h : AHeap} {x : R} (k : Wp x fun r h' => r = .panic (PanA e q) ∧ ∃ p, Rd h' b u p ∧ Tch [b] h h') : Step b u h x (.error (e, q)) := by
 obtain ⟨_, h', e1, rfl, p, k1, k2⟩ := k
 exact ⟨h', p, e1, k1, k2⟩
theorem Wp.stepK {b : Nat} {u : Bytes} {h : AHeap} {x : R} {k : AV → AHeap → R} {Q : ARes → AHeap → Prop} {v : AV} {p : Nat} (hx : Step b u h x (.ok (v, p))) (hk : ∀ h', Rd h' b u p → Tch [b] h h' → Wp (k v h') Q) : Wp (callK x k) Q := by
 obtain ⟨h', e, k1, k2⟩ := hx
 exact Wp.callK e (hk h' k1 k2)
theorem Wp.stepN {b : Nat} {u : Bytes} {h : AHeap} {x : R} {k : AV → AHeap → R} {Q : ARes → AHeap → Prop} {v : AV} {p : Nat} (hx : Step b u h x (.ok (v, p))) (hk : ∀ h', Rd h' b u p → Tch [b] h h' → Wp (k v h') Q) : Wp (callN x k) Q := by
 obtain ⟨h', e, k1, k2⟩ := hx
 exact Wp.callN e (hk h' k1 k2)
theorem Wp.stepE {b q : Nat} {e : Int} {u : Bytes} {h : AHeap} {x : R} {k : AV → AHeap → R} {Q : ARes → AHeap → Prop} (hx : Step b u h x (.error (e, q))) (hk : ∀ h' p, Rd h' b u p → Tch [b] h h' → Q (.panic (PanA e q)) h') : Wp (callK x k) Q := by
 obtain ⟨h', p, e1, k1, k2⟩ := hx
 exact Wp.callP e1 (hk h' p k1 k2)
theorem lt_tch {S : List Nat} {h h' : AHeap} {b : Nat} (t : Tch S h h') (hb : b < h.next) : b < h'.next := Nat.lt_of_lt_of_le hb t.1
theorem or4 {v c : Nat} (h1 : v < 16) (h2 : c < 16) : orI .u8 ((v : Int) * 16) (c : Int) = ((v * 16 + c : Nat) : Int) := by
 show IntKind.u8.wrap (((BitVec.ofInt 8 ((v : Int) * 16)) ||| (BitVec.ofInt 8 (c : Int))).toNat : Int) = _
 have e1 : (BitVec.ofInt 8 ((v : Int) * 16)) = BitVec.ofNat 8 (v * 16) := by
  rw [show ((v : Int) * 16) = ((v * 16 : Nat) : Int) by omega]
  exact BitVec.ofInt_natCast ..
 have e2 : (BitVec.ofInt 8 (c : Int)) = BitVec.ofNat 8 c := BitVec.ofInt_natCast ..
 rw [e1, e2, BitVec.toNat_or, BitVec.toNat_ofNat, BitVec.toNat_ofNat, Nat.mod_eq_of_lt (by omega), Nat.mod_eq_of_lt (by omega)]
 have e3 : v * 16 ||| c = v * 16 + c := by
  have := Nat.shiftLeft_add_eq_or_of_lt (i := 4) (b := c) (by omega) v
  rw [Nat.shiftLeft_eq] at this
  exact this.symm
 rw [e3, wrap_u8_mod, Int.emod_eq_of_lt (by omega) (by omega)]
theorem shl4 {v : Nat} (h1 : v < 16) : shlI .u8 (v : Int) 4 = some ((v : Int) * 16) := by
 have : shlI .u8 (v : Int) 4 = some (IntKind.u8.wrap ((v : Int) * 16)) := rfl
 rw [this, wrap_u8_mod, Int.emod_eq_of_lt (by omega) (by omega)]
theorem mayB_any : ∀ hi : Fin 16, mayB hi.val = (List.range 16).any fun lo => byD (hi.val * 16 + lo) := by decide
section
variable {n d b p : Nat} {h : AHeap} {u : Bytes} {Q : ARes → AHeap → Prop}
theorem mb_loop {hi : Nat} (hh : hi < 16) {k5 : AHeap → R} (hk : k5 = fun h_6 => some (.ret (.bool false), h_6)) : ∀ (f i : Nat), 16 < f + i → i ≤ 16 → (∀ j, j < i → byD (hi * 16 + j) = false) → Wp (pattern_mayBegin_L0 (world n (d + 2)) ((hi : Int) * 16) k5 f (i : Int) h) fun r h' => r = .ret (.bool (mayB hi)) ∧ h' = h
 | 0, i, h1, h2, _ => by omega
 | f + 1, i, h1, h2, hj => by
  rw [pattern_mayBegin_L0_s]
  unfold pattern_mayBegin_L0b
  have ha := mayB_any ⟨hi, hh⟩
  by_cases hi16 : i < 16
  ·have hb := byDigits_w (n := n) (d := d) (h := h) (hi * 16 + i)
   rw [← or4 hh hi16] at hb
   cases hd : byD (hi * 16 + i) with
   | true =>
    rw [hd] at hb
    repeat (first | ((with_reducible refine Wp.lettu8 ?_ ?_ ?_); omega; omega) | (with_reducible refine Wp.lett ?_) | ((with_reducible apply Wp.obind); (with_reducible exact avBool_bool _)) | ((with_reducible refine Wp.ift ?_ ?_); first | (with_reducible rfl) | ((with_reducible apply decide_eq_true); omega)) | ((with_reducible apply Wp.callN); (with_reducible assumption)))
    have : mayB hi = true := by
     show mayB (⟨hi, hh⟩ : Fin 16).val = true
     rw [ha, List.any_eq_true]
     exact ⟨i, List.mem_range.2 hi16, hd⟩
    rw [this]
    exact Wp.ret ⟨rfl, rfl⟩
   | false =>
    rw [hd] at hb
    repeat (first | ((with_reducible first | refine Wp.lettw ?_ ?_ ?_ | refine Wp.lettu8 ?_ ?_ ?_); omega; omega) | (with_reducible refine Wp.lett ?_) | ((with_reducible apply Wp.obind); (with_reducible exact avBool_bool _)) | ((with_reducible refine Wp.ift ?_ ?_); ((with_reducible apply decide_eq_true); omega)) | ((with_reducible refine Wp.iff ?_ ?_); (with_reducible rfl)) | ((with_reducible apply Wp.callN); (with_reducible assumption)))
    rw [show (i : Int) + 1 = ((i + 1 : Nat) : Int) by omega]
    refine mb_loop hh hk f (i + 1) (by omega) (by omega) fun j hj2 => ?_
    by_cases hji : j < i
    ·exact hj j hji
    ·have : j = i := by omega
     rw [this]
     exact hd
  ·repeat (first | (with_reducible refine Wp.lett ?_) | ((with_reducible refine Wp.iff ?_ ?_); ((with_reducible apply decide_eq_false); omega)) | (with_reducible refine Wp.go0 (by assumption) ?_))
   have : mayB hi = false := by
    show mayB (⟨hi, hh⟩ : Fin 16).val = false
    rw [ha, List.any_eq_false]
    intro j hjm
    rw [hj j (by have := List.mem_range.1 hjm; omega)]
    simp
   rw [this]
   exact Wp.ret ⟨rfl, rfl⟩
theorem mayBegin_w (hn : 16 < n) {hi : Nat} (hh : hi < 16) : world n (d + 3) 62 [.int .u8 ((hi : Int) * 16)] h = some (.ret (.bool (mayB hi)), h) := by
 rw [w_pattern_mayBegin]
 refine (congrArg (gcR h) ?_).trans gcR_self
 apply Wp.eq
 unfold pattern_mayBegin
 repeat ((with_reducible refine Wp.join0 (fun _ _ => ?_)))
 rename_i k5 hk5
 exact mb_loop hh hk5 n 0 (by omega) (by omega) (fun j hj => absurd hj (by omega))
theorem digit_r (k : Rd h b u p) (hb : b < h.next) (hp : p ≤ u.length) (hu : u.length ≤ 1000000) : Step b u h (world n (d + 3) 61 [.ptr b 0] h) (match (at? u p).bind hexV with
  | some v => .ok (.int .u8 (v : Int), p + 1)
  | none => .error (6, p)) := by
 have hnx := next_r (n := n) (d := d) k hb hp hu
 cases ha : at? u p with
 | none =>
  rw [ha] at hnx
  refine Step.err_of ?_
  rw [w_pattern_reader_digit]
  unfold pattern_reader_digit
  exact Wp.stepE hnx fun h' p' k1 k2 => ⟨rfl, p', k1, k2⟩
 | some c =>
  rw [ha] at hnx
  obtain ⟨hpl, hpc⟩ := at?_some ha
  have hc := (u[p]).toNat_lt
  have hib : ∀ H, world n (d + 2) 64 [strA digitsB, .int .u8 (c : Int)] H = some (.ret (.int .i64 (ibV c)), H) := fun H => (w_ibF n (d + 1) _ H).trans (ibF_eq (by omega) H)
  show Step b u h _ (match hexV c with | some v => _ | none => _)
  cases hv : hexV c with
  | none =>
   have hi : ibV c = -1 := by unfold ibV; rw [hv]
   refine Step.err_of ?_
   rw [w_pattern_reader_digit]
   unfold pattern_reader_digit
   refine Wp.stepK hnx fun h' k1 k2 => ?_
   have hr := refuseLast_r (n := n) (d := d) k1 (by omega) hu
   have hib' := hib h'
   rw [hi] at hib'
   repeat (first | (with_reducible refine Wp.join0 (fun _ _ => ?_)) | (with_reducible refine Wp.lett ?_) | ((with_reducible apply Wp.obind); (with_reducible exact avInt_int _ _)) | ((with_reducible refine Wp.ift ?_ ?_); ((with_reducible apply decide_eq_true); omega)) | ((with_reducible first | apply Wp.callN | apply Wp.callK); (with_reducible assumption)))
   exact Wp.callP hr ⟨rfl, _, k1, k2⟩
  | some v =>
   have hv16 := hexV_lt hv
   have hi : ibV c = (v : Int) := by unfold ibV; rw [hv]
   refine Step.ok_of ?_
   rw [w_pattern_reader_digit]
   unfold pattern_reader_digit
   refine Wp.stepK hnx fun h' k1 k2 => ?_
   have hib' := hib h'
   rw [hi] at hib'
   repeat (first | (with_reducible refine Wp.join0 (fun _ _ => ?_)) | ((with_reducible refine Wp.lettu8 ?_ ?_ ?_); omega; omega) | (with_reducible refine Wp.lett ?_) | ((with_reducible apply Wp.obind); (with_reducible exact avInt_int _ _)) | ((with_reducible refine Wp.iff ?_ ?_); ((with_reducible apply decide_eq_false); omega)) | ((with_reducible apply Wp.callN); (with_reducible assumption)) | (with_reducible refine Wp.go0 (by assumption) ?_))
   exact Wp.ret ⟨rfl, k1, k2⟩
/-- as a step -/
def stepF : FR → Except (Int × Nat) (AV × Nat)
 | .ok c q => .ok (.int .u8 (c : Int), q)
 | .bad q => .error (6, q)
theorem two_r (k : Rd h b u p) (hb : b < h.next) (hp : p ≤ u.length) (hu : u.length ≤ 1000000) (hn : 16 < n) : Step b u h (world n (d + 4) 58 [.ptr b 0] h) (stepF (hexAt u p)) := by
 have h1 := digit_r (n := n) (d := d) k hb hp hu
 unfold hexAt
 cases ha : (at? u p).bind hexV with
 | none =>
  rw [ha] at h1
  dsimp only
  refine Step.err_of ?_
  rw [w_pattern_reader_twoDigits]
  unfold pattern_reader_twoDigits
  exact Wp.stepE h1 fun h' p' k1 k2 => ⟨rfl, p', k1, k2⟩
 | some hi =>
  rw [ha] at h1
  dsimp only
  obtain ⟨c, hc0, hc⟩ := Option.bind_eq_some_iff.1 ha
  obtain ⟨hpl, _⟩ := at?_some hc0
  have hh := (hexV_lt hc).1
  have hmb : ∀ H, world n (d + 3) 62 [.int .u8 ((hi : Int) * 16)] H = some (.ret (.bool (mayB hi)), H) := fun H => mayBegin_w hn hh
  by_cases hm : mayB hi = false
  ·rw [if_pos hm]
   refine Step.err_of ?_
   rw [w_pattern_reader_twoDigits]
   unfold pattern_reader_twoDigits
   refine Wp.stepK h1 fun h' k1 k2 => ?_
   have hmb' := hmb h'
   rw [hm] at hmb'
   have hr := refuseLast_r (n := n) (d := d + 1) k1 (by omega) hu
   repeat (first | (with_reducible refine Wp.join0 (fun _ _ => ?_)) | (with_reducible refine Wp.lett ?_) | ((with_reducible apply Wp.obind); (with_reducible first | exact shl4 hh | exact avInt_int _ _ | exact avBool_bool _)) | ((with_reducible refine Wp.ift ?_ ?_); (with_reducible exact Bool.not_false)) | ((with_reducible first | apply Wp.callN | apply Wp.callK); (with_reducible assumption)))
   exact Wp.callP hr ⟨rfl, _, k1, k2⟩
  ·rw [if_neg hm]
   have hm : mayB hi = true := by simpa using hm
   cases hb2 : (at? u (p + 1)).bind hexV with
   | none =>
    dsimp only
    refine Step.err_of ?_
    rw [w_pattern_reader_twoDigits]
    unfold pattern_reader_twoDigits
    refine Wp.stepK h1 fun h' k1 k2 => ?_
    have hmb' := hmb h'
    rw [hm] at hmb'
    have h2 := digit_r (n := n) (d := d) k1 (lt_tch k2 hb) (by omega) hu
    rw [hb2] at h2
    repeat (first | (with_reducible refine Wp.join0 (fun _ _ => ?_)) | (with_reducible refine Wp.lett ?_) | ((with_reducible apply Wp.obind); (with_reducible first | exact shl4 hh | exact avInt_int _ _ | exact avBool_bool _)) | ((with_reducible refine Wp.iff ?_ ?_); (with_reducible exact Bool.not_true)) | ((with_reducible first | apply Wp.callN | apply Wp.callK); (with_reducible assumption)) | (with_reducible refine Wp.go0 (by assumption) ?_))
    exact Wp.stepE h2 fun h'' p' k3 k4 => ⟨rfl, p', k3, k2.trans k4⟩
   | some lo =>
    dsimp only
    obtain ⟨c2, hc20, hc2⟩ := Option.bind_eq_some_iff.1 hb2
    obtain ⟨hpl2, _⟩ := at?_some hc20
    have hl := (hexV_lt hc2).1
    have hbd : ∀ H, world n (d + 3) 63 [.int .u8 (orI .u8 ((hi : Int) * 16) (lo : Int))] H = some (.ret (.bool (byD (hi * 16 + lo))), H) := fun H => by
     rw [or4 hh hl]
     exact byDigits_w (n := n) (d := d + 1) (h := H) _
    by_cases hd : byD (hi * 16 + lo) = true
    ·rw [if_pos hd]
     refine Step.ok_of ?_
     rw [w_pattern_reader_twoDigits]
     unfold pattern_reader_twoDigits
     refine Wp.stepK h1 fun h' k1 k2 => ?_
     have hmb' := hmb h'
     rw [hm] at hmb'
     have h2 := digit_r (n := n) (d := d) k1 (lt_tch k2 hb) (by omega) hu
     rw [hb2] at h2
     repeat (first | (with_reducible refine Wp.join0 (fun _ _ => ?_)) | (with_reducible refine Wp.lett ?_) | ((with_reducible apply Wp.obind); (with_reducible first | exact shl4 hh | exact avInt_int _ _ | exact avBool_bool _)) | ((with_reducible refine Wp.iff ?_ ?_); (with_reducible exact Bool.not_true)) | ((with_reducible first | apply Wp.callN | apply Wp.callK); (with_reducible assumption)) | (with_reducible refine Wp.go0 (by assumption) ?_))
     refine Wp.stepK h2 fun h'' k3 k4 => ?_
     have hbd' := hbd h''
     rw [hd] at hbd'
     repeat (first | (with_reducible refine Wp.join0 (fun _ _ => ?_)) | (with_reducible refine Wp.lett ?_) | ((with_reducible apply Wp.obind); (with_reducible first | exact avInt_int _ _ | exact avBool_bool _)) | ((with_reducible refine Wp.iff ?_ ?_); (with_reducible exact Bool.not_true)) | ((with_reducible apply Wp.callN); (with_reducible assumption)) | (with_reducible refine Wp.go0 (by assumption) ?_))
     rw [or4 hh hl]
     exact Wp.ret ⟨rfl, k3, k2.trans k4⟩
    ·rw [if_neg hd]
     have hd : byD (hi * 16 + lo) = false := by simpa using hd
     refine Step.err_of ?_
     rw [w_pattern_reader_twoDigits]
     unfold pattern_reader_twoDigits
     refine Wp.stepK h1 fun h' k1 k2 => ?_
     have hmb' := hmb h'
     rw [hm] at hmb'
     have h2 := digit_r (n := n) (d := d) k1 (lt_tch k2 hb) (by omega) hu
     rw [hb2] at h2
     repeat (first | (with_reducible refine Wp.join0 (fun _ _ => ?_)) | (with_reducible refine Wp.lett ?_) | ((with_reducible apply Wp.obind); (with_reducible first | exact shl4 hh | exact avInt_int _ _ | exact avBool_bool _)) | ((with_reducible refine Wp.iff ?_ ?_); (with_reducible exact Bool.not_true)) | ((with_reducible first | apply Wp.callN | apply Wp.callK); (with_reducible assumption)) | (with_reducible refine Wp.go0 (by assumption) ?_))
     refine Wp.stepK h2 fun h'' k3 k4 => ?_
     have hbd' := hbd h''
     rw [hd] at hbd'
     have hr := refuseLast_r (n := n) (d := d + 1) k3 (by omega) hu
     repeat (first | (with_reducible refine Wp.join0 (fun _ _ => ?_)) | (with_reducible refine Wp.lett ?_) | ((with_reducible apply Wp.obind); (with_reducible first | exact avInt_int _ _ | exact avBool_bool _)) | ((with_reducible refine Wp.ift ?_ ?_); (with_reducible exact Bool.not_false)) | ((with_reducible first | apply Wp.callN | apply Wp.callK); (with_reducible assumption)))
     exact Wp.callP hr ⟨rfl, _, k3, k2.trans k4⟩
theorem form_r (k : Rd h b u p) (hb : b < h.next) (hp : p ≤ u.length) (hu : u.length ≤ 1000000) (hn : 16 < n) (hq : at? u p ≠ some 34) : Step b u h (world n (d + 5) 51 [.ptr b 0] h) (stepF (formAt u p)) := by
 have h1 := next_r (n := n) (d := d + 2) k hb hp hu
 unfold formAt
 cases ha : at? u p with
 | none =>
  rw [ha] at h1
  dsimp only
  refine Step.err_of ?_
  rw [w_pattern_reader_form]
  unfold pattern_reader_form
  exact Wp.stepE h1 fun h' p' k1 k2 => ⟨rfl, p', k1, k2⟩
 | some a =>
  rw [ha] at h1
  dsimp only
  obtain ⟨hpl, hpa⟩ := at?_some ha
  have ha34 : a ≠ 34 := fun e => hq (by rw [ha, e])
  have hp1 : ∀ H, world n (d + 4) 56 [.int .u8 (a : Int)] H = some (.ret (.bool (plainB a)), H) := fun H => plain_w a
  by_cases h92 : a = 92
  case neg =>
   rw [if_neg h92]
   by_cases hpb : plainB a = true
   ·rw [if_pos ⟨hpb, ha34⟩]
    refine Step.ok_of ?_
    rw [w_pattern_reader_form]
    unfold pattern_reader_form
    refine Wp.stepK h1 fun h' k1 k2 => ?_
    have hp2 := hp1 h'
    rw [hpb] at hp2
    repeat (first | (with_reducible refine Wp.join0 (fun _ _ => ?_)) | (with_reducible refine Wp.lett ?_) | ((with_reducible apply Wp.obind); (with_reducible first | exact avInt_int _ _ | exact avBool_bool _)) | ((with_reducible refine Wp.ift ?_ ?_); ((with_reducible apply bne_t); omega)) | ((with_reducible refine Wp.iff ?_ ?_); (with_reducible exact Bool.not_true)) | ((with_reducible apply Wp.callN); (with_reducible assumption)) | (with_reducible refine Wp.go0 (by assumption) ?_))
    exact Wp.ret ⟨rfl, k1, k2⟩
   ·rw [if_neg (fun hh => hpb hh.1)]
    have hpb : plainB a = false := by simpa using hpb
    refine Step.err_of ?_
    rw [w_pattern_reader_form]
    unfold pattern_reader_form
    refine Wp.stepK h1 fun h' k1 k2 => ?_
    have hp2 := hp1 h'
    rw [hpb] at hp2
    have hr := refuseLast_r (n := n) (d := d + 2) k1 (by omega) hu
    repeat (first | (with_reducible refine Wp.join0 (fun _ _ => ?_)) | (with_reducible refine Wp.lett ?_) | ((with_reducible apply Wp.obind); (with_reducible first | exact avInt_int _ _ | exact avBool_bool _)) | ((with_reducible refine Wp.ift ?_ ?_); first | (with_reducible exact Bool.not_false) | ((with_reducible apply bne_t); omega)) | ((with_reducible first | apply Wp.callN | apply Wp.callK); (with_reducible assumption)))
    exact Wp.callP hr ⟨rfl, _, k1, k2⟩
  case pos =>
   rw [if_pos h92]
   unfold escAt
   cases hd : at? u (p + 1) with
   | none =>
    dsimp only
    refine Step.err_of ?_
    rw [w_pattern_reader_form]
    unfold pattern_reader_form
    refine Wp.stepK h1 fun h' k1 k2 => ?_
    have h2 := next_r (n := n) (d := d + 2) k1 (lt_tch k2 hb) (by omega) hu
    rw [hd] at h2
    repeat (first | (with_reducible refine Wp.lett ?_) | ((with_reducible apply Wp.obind); (with_reducible exact avInt_int _ _)) | ((with_reducible refine Wp.iff ?_ ?_); ((with_reducible apply bne_f); omega)))
    exact Wp.stepE h2 fun h'' p' k3 k4 => ⟨rfl, p', k3, k2.trans k4⟩
   | some c =>
    dsimp only
    obtain ⟨hpl2, hpc⟩ := at?_some hd
    by_cases c1 : c = 34
    ·rw [if_pos (.inl c1)]
     refine Step.ok_of ?_
     rw [w_pattern_reader_form]
     unfold pattern_reader_form
     refine Wp.stepK h1 fun h' k1 k2 => ?_
     have h2 := next_r (n := n) (d := d + 2) k1 (lt_tch k2 hb) (by omega) hu
     rw [hd] at h2
     repeat (first | (with_reducible refine Wp.lett ?_) | ((with_reducible apply Wp.obind); (with_reducible exact avInt_int _ _)) | ((with_reducible refine Wp.iff ?_ ?_); ((with_reducible apply bne_f); omega)))
     refine Wp.stepK h2 fun h'' k3 k4 => ?_
     repeat (first | (with_reducible refine Wp.join1 (fun _ _ => ?_)) | (with_reducible refine Wp.lett ?_) | ((with_reducible apply Wp.obind); (with_reducible exact avInt_int _ _)) | ((with_reducible refine Wp.ift ?_ ?_); first | (with_reducible rfl) | ((with_reducible apply beq_t); omega)) | (with_reducible refine Wp.go1 (by assumption) ?_))
     exact Wp.ret ⟨rfl, k3, k2.trans k4⟩
    by_cases c2 : c = 92
    ·rw [if_pos (.inr c2)]
     have q92 : ((c : Int) == 92) = true := beq_t (by omega)
     refine Step.ok_of ?_
     rw [w_pattern_reader_form]
     unfold pattern_reader_form
     refine Wp.stepK h1 fun h' k1 k2 => ?_
     have h2 := next_r (n := n) (d := d + 2) k1 (lt_tch k2 hb) (by omega) hu
     rw [hd] at h2
     repeat (first | (with_reducible refine Wp.lett ?_) | ((with_reducible apply Wp.obind); (with_reducible exact avInt_int _ _)) | ((with_reducible refine Wp.iff ?_ ?_); ((with_reducible apply bne_f); omega)))
     refine Wp.stepK h2 fun h'' k3 k4 => ?_
     repeat (first | (with_reducible refine Wp.join1 (fun _ _ => ?_)) | (with_reducible refine Wp.lett ?_) | ((with_reducible apply Wp.obind); (with_reducible exact avInt_int _ _)) | ((with_reducible refine Wp.ift ?_ ?_); (with_reducible assumption)) | ((with_reducible refine Wp.iff ?_ ?_); ((with_reducible apply beq_f); omega)) | (with_reducible refine Wp.go1 (by assumption) ?_))
     exact Wp.ret ⟨rfl, k3, k2.trans k4⟩
    have q92 : ((c : Int) == 92) = false := beq_f (by omega)
    rw [if_neg (by omega)]
    by_cases c3 : c = 110
    ·rw [if_pos c3]
     refine Step.ok_of ?_
     rw [w_pattern_reader_form]
     unfold pattern_reader_form
     refine Wp.stepK h1 fun h' k1 k2 => ?_
     have h2 := next_r (n := n) (d := d + 2) k1 (lt_tch k2 hb) (by omega) hu
     rw [hd] at h2
     repeat (first | (with_reducible refine Wp.lett ?_) | ((with_reducible apply Wp.obind); (with_reducible exact avInt_int _ _)) | ((with_reducible refine Wp.iff ?_ ?_); ((with_reducible apply bne_f); omega)))
     refine Wp.stepK h2 fun h'' k3 k4 => ?_
     repeat (first | (with_reducible refine Wp.join1 (fun _ _ => ?_)) | (with_reducible refine Wp.lett ?_) | ((with_reducible apply Wp.obind); (with_reducible exact avInt_int _ _)) | ((with_reducible refine Wp.ift ?_ ?_); ((with_reducible apply beq_t); omega)) | ((with_reducible refine Wp.iff ?_ ?_); first | (with_reducible assumption) | ((with_reducible apply beq_f); omega)) | (with_reducible refine Wp.go1 (by assumption) ?_))
     exact Wp.ret ⟨rfl, k3, k2.trans k4⟩
    rw [if_neg c3]
    by_cases c4 : c = 114
    ·rw [if_pos c4]
     refine Step.ok_of ?_
     rw [w_pattern_reader_form]
     unfold pattern_reader_form
     refine Wp.stepK h1 fun h' k1 k2 => ?_
     have h2 := next_r (n := n) (d := d + 2) k1 (lt_tch k2 hb) (by omega) hu
     rw [hd] at h2
     repeat (first | (with_reducible refine Wp.lett ?_) | ((with_reducible apply Wp.obind); (with_reducible exact avInt_int _ _)) | ((with_reducible refine Wp.iff ?_ ?_); ((with_reducible apply bne_f); omega)))
     refine Wp.stepK h2 fun h'' k3 k4 => ?_
     repeat (first | (with_reducible refine Wp.join1 (fun _ _ => ?_)) | (with_reducible refine Wp.lett ?_) | ((with_reducible apply Wp.obind); (with_reducible exact avInt_int _ _)) | ((with_reducible refine Wp.ift ?_ ?_); ((with_reducible apply beq_t); omega)) | ((with_reducible refine Wp.iff ?_ ?_); first | (with_reducible assumption) | ((with_reducible apply beq_f); omega)) | (with_reducible refine Wp.go1 (by assumption) ?_))
     exact Wp.ret ⟨rfl, k3, k2.trans k4⟩
    rw [if_neg c4]
    by_cases c5 : c = 116
    ·rw [if_pos c5]
     refine Step.ok_of ?_
     rw [w_pattern_reader_form]
     unfold pattern_reader_form
     refine Wp.stepK h1 fun h' k1 k2 => ?_
     have h2 := next_r (n := n) (d := d + 2) k1 (lt_tch k2 hb) (by omega) hu
     rw [hd] at h2
     repeat (first | (with_reducible refine Wp.lett ?_) | ((with_reducible apply Wp.obind); (with_reducible exact avInt_int _ _)) | ((with_reducible refine Wp.iff ?_ ?_); ((with_reducible apply bne_f); omega)))
     refine Wp.stepK h2 fun h'' k3 k4 => ?_
     repeat (first | (with_reducible refine Wp.join1 (fun _ _ => ?_)) | (with_reducible refine Wp.lett ?_) | ((with_reducible apply Wp.obind); (with_reducible exact avInt_int _ _)) | ((with_reducible refine Wp.ift ?_ ?_); ((with_reducible apply beq_t); omega)) | ((with_reducible refine Wp.iff ?_ ?_); first | (with_reducible assumption) | ((with_reducible apply beq_f); omega)) | (with_reducible refine Wp.go1 (by assumption) ?_))
     exact Wp.ret ⟨rfl, k3, k2.trans k4⟩
    rw [if_neg c5]
    by_cases c6 : c = 120
    ·rw [if_pos c6]
     have h3 : ∀ H, Rd H b u (p + 1 + 1) → b < H.next → Step b u H (world n (d + 4) 58 [.ptr b 0] H) (stepF (hexAt u (p + 1 + 1))) := fun H k3 hb3 => two_r k3 hb3 (by omega) hu hn
     cases hx : hexAt u (p + 1 + 1) with
     | ok v q =>
      rw [hx] at h3
      refine Step.ok_of ?_
      rw [w_pattern_reader_form]
      unfold pattern_reader_form
      refine Wp.stepK h1 fun h' k1 k2 => ?_
      have h2 := next_r (n := n) (d := d + 2) k1 (lt_tch k2 hb) (by omega) hu
      rw [hd] at h2
      repeat (first | (with_reducible refine Wp.lett ?_) | ((with_reducible apply Wp.obind); (with_reducible exact avInt_int _ _)) | ((with_reducible refine Wp.iff ?_ ?_); ((with_reducible apply bne_f); omega)))
      refine Wp.stepK h2 fun h'' k3 k4 => ?_
      have h3' := h3 h'' k3 (lt_tch k4 (lt_tch k2 hb))
      repeat (first | (with_reducible refine Wp.join1 (fun _ _ => ?_)) | (with_reducible refine Wp.lett ?_) | ((with_reducible apply Wp.obind); (with_reducible exact avInt_int _ _)) | ((with_reducible refine Wp.ift ?_ ?_); ((with_reducible apply beq_t); omega)) | ((with_reducible refine Wp.iff ?_ ?_); first | (with_reducible assumption) | ((with_reducible apply beq_f); omega)) | (with_reducible refine Wp.go1 (by assumption) ?_))
      refine Wp.stepK h3' fun h''' k5 k6 => ?_
      repeat (((with_reducible apply Wp.obind); (with_reducible exact avInt_int _ _)))
      exact Wp.ret ⟨rfl, k5, (k2.trans k4).trans k6⟩
     | bad q =>
      rw [hx] at h3
      refine Step.err_of ?_
      rw [w_pattern_reader_form]
      unfold pattern_reader_form
      refine Wp.stepK h1 fun h' k1 k2 => ?_
      have h2 := next_r (n := n) (d := d + 2) k1 (lt_tch k2 hb) (by omega) hu
      rw [hd] at h2
      repeat (first | (with_reducible refine Wp.lett ?_) | ((with_reducible apply Wp.obind); (with_reducible exact avInt_int _ _)) | ((with_reducible refine Wp.iff ?_ ?_); ((with_reducible apply bne_f); omega)))
      refine Wp.stepK h2 fun h'' k3 k4 => ?_
      have h3' := h3 h'' k3 (lt_tch k4 (lt_tch k2 hb))
      repeat (first | (with_reducible refine Wp.join1 (fun _ _ => ?_)) | (with_reducible refine Wp.lett ?_) | ((with_reducible apply Wp.obind); (with_reducible exact avInt_int _ _)) | ((with_reducible refine Wp.ift ?_ ?_); ((with_reducible apply beq_t); omega)) | ((with_reducible refine Wp.iff ?_ ?_); first | (with_reducible assumption) | ((with_reducible apply beq_f); omega)) | (with_reducible refine Wp.go1 (by assumption) ?_))
      exact Wp.stepE h3' fun h''' p' k5 k6 => ⟨rfl, p', k5, (k2.trans k4).trans k6⟩
    rw [if_neg c6]
    refine Step.err_of ?_
    rw [w_pattern_reader_form]
    unfold pattern_reader_form
    refine Wp.stepK h1 fun h' k1 k2 => ?_
    have h2 := next_r (n := n) (d := d + 2) k1 (lt_tch k2 hb) (by omega) hu
    rw [hd] at h2
    repeat (first | (with_reducible refine Wp.lett ?_) | ((with_reducible apply Wp.obind); (with_reducible exact avInt_int _ _)) | ((with_reducible refine Wp.iff ?_ ?_); ((with_reducible apply bne_f); omega)))
    refine Wp.stepK h2 fun h'' k3 k4 => ?_
    have hr := refuseLast_r (n := n) (d := d + 2) k3 (by omega) hu
    repeat (first | (with_reducible refine Wp.join1 (fun _ _ => ?_)) | (with_reducible refine Wp.lett ?_) | ((with_reducible apply Wp.obind); (with_reducible exact avInt_int _ _)) | ((with_reducible refine Wp.iff ?_ ?_); first | (with_reducible assumption) | ((with_reducible apply beq_f); omega)) | (with_reducible refine Wp.go1 (by assumption) ?_))
    exact Wp.callP hr ⟨rfl, _, k3, k2.trans k4⟩
end
end Go.Proofs.Ytjopejiooipmkaa

namespace Go.Proofs.Ytjopejiooipmkaa
open Go.RowKit Abs
abbrev TBld : Nat := 70
abbrev TU8 : Nat := 5
abbrev BldW (h : AHeap) (b c : Nat) (l : Bytes) : Prop := BldR TBld TU8 h b c l
theorem eql_nil_nil (h : AHeap) : opBin Try.prog h .eql 68 true (some .nilp) (some .nilp) = some (.val (.bool true), h) := by kernel_rfl
theorem eql_ptr_nil (h : AHeap) (b : Nat) : opBin Try.prog h .eql 68 true (some (.ptr b 0)) (some .nilp) = some (.val (.bool false), h) := by kernel_rfl
theorem noEscape_ptr (h : AHeap) (b : Nat) : externA Try.prog h 60 [.ptr b 0] = some (.val (.ptr b 0), h) := by kernel_rfl
theorem binV_same (P : Program) (h : AHeap) (op : BinOp) (t : TypeId) (lit : Bool) (b o o' : Nat) : opBinV P h op t lit (some (.ptr b o)) (some (.ptr b o')) = opBin P h op t lit (some (.ptr b o)) (some (.ptr b o')) := by
 have hb : Nat.beq b b = true := Nat.beq_refl b
 simp only [opBinV, apartPtr, hb, Bool.not_true, Bool.false_and, Bool.and_false]
theorem conv_there {h : AHeap} {b : Nat} {t : T AV} (hb : h.get b = some (.row 2 t TBld)) : opConv Try.prog h 68 79 (some (.ptr b 0)) = some (.val (.ptr b 0), h) :=
 conv_unsafe (k := 1) (by kernel_rfl) (by kernel_rfl) hb
theorem conv_back {h : AHeap} {b : Nat} {t : T AV} (hb : h.get b = some (.row 2 t TBld)) (hx : memB TBld h.ex = true) : opConv Try.prog h 79 68 (some (.ptr b 0)) = some (.val (.ptr b 0), h) :=
 conv_safe (u := TBld) (by kernel_rfl) (by kernel_rfl) hb hx (by kernel_rfl)
theorem neq_same (h : AHeap) (b : Nat) : opBin Try.prog h .neq 68 false (some (.ptr b 0)) (some (.ptr b 0)) = some (.val (.bool false), h) :=
 neq_self (u := TBld) (by kernel_rfl)
theorem bldSl_byte (h : AHeap) (v : Int) : bldSl Try.prog h 57 1 [(0, .int .u8 v)] = outNewS h TU8 [.int .u8 v] 1 1 := by kernel_rfl
theorem out_news {h : AHeap} {e : TypeId} {l : List AV} {n sz : Nat} (h1 : l.all AV.one = true) (hex : memB e h.ex = false) : outNewS h e l n sz = some (.val (.sl h.next 0 n sz), newH h e l) := by
 unfold outNewS
 rw [if_pos ⟨h1, hex⟩]
 rfl
section
variable {n d b c : Nat} {h : AHeap} {l : Bytes} {Q : ARes → AHeap → Prop}
theorem copyCheck_r (k : BldW h b c l) (hx : memB TBld h.ex = true) : ∃ h', world n (d + 1) 54 [.ptr b 0] h = some (.ret (.tup []), h') ∧ BldW h' b c l ∧ Tch [b] h h' := by
 obtain ⟨a, buf, k1, k2, k3, k4⟩ := k
 apply Wp.ex
 rw [w_strings_Builder_copyCheck]
 unfold strings_Builder_copyCheck
 repeat (((with_reducible apply Wp.obind); first | (with_reducible first | exact nilC_ptr _ _ | exact fldP_ptr _ _ _) | ((with_reducible apply RowH.cell'); (with_reducible assumption); rfl)))
 rcases k3 with rfl | rfl
 ·refine Wp.outK (eql_nil_nil h) ?_
  repeat (first | (with_reducible refine Wp.join0 (fun _ _ => ?_)) | ((with_reducible apply Wp.obind); (with_reducible exact avBool_bool _)) | ((with_reducible refine Wp.ift ?_ ?_); (with_reducible rfl)))
  have k1' := k1
  obtain ⟨t, g1, _⟩ := k1'
  refine Wp.outK (conv_there g1) ?_
  refine Wp.outK (noEscape_ptr h b) ?_
  refine Wp.outK (conv_back g1 hx) ?_
  repeat (((with_reducible apply Wp.obind); (with_reducible first | exact nilC_ptr _ _ | exact fldP_ptr _ _ _)))
  refine Wp.st1 k1 (by simp) rfl (fun h' q1 q2 q3 => ?_)
  repeat ((with_reducible refine Wp.go0 (by assumption) ?_))
  exact Wp.ret ⟨rfl, ⟨_, buf, q1, by omega, .inr rfl, k4.tch q2 (fun hc => by simpa using hc)⟩, q2⟩
 ·refine Wp.outK (eql_ptr_nil h b) ?_
  repeat (first | (with_reducible refine Wp.join0 (fun _ _ => ?_)) | ((with_reducible apply Wp.obind); first | (with_reducible first | exact avBool_bool _ | exact nilC_ptr _ _ | exact fldP_ptr _ _ _) | ((with_reducible apply RowH.cell'); (with_reducible assumption); rfl)) | ((with_reducible refine Wp.iff ?_ ?_); (with_reducible rfl)))
  refine Wp.outK ((binV_same _ _ _ _ _ _ _ _).trans (neq_same h b)) ?_
  repeat (first | ((with_reducible apply Wp.obind); (with_reducible exact avBool_bool _)) | ((with_reducible refine Wp.iff ?_ ?_); (with_reducible rfl)) | (with_reducible refine Wp.go0 (by assumption) ?_))
  exact Wp.ret ⟨rfl, ⟨_, buf, k1, k2, .inr rfl, k4⟩, Tch.refl _ _⟩
theorem writeByte_r (k : BldW h b c l) (hx : memB TBld h.ex = true) (hu : memB TU8 h.ex = false) {y : Nat} (hy : y < 256) (hbig : l.length + 1 ≤ 1000000000) :
  ∃ c' h', world n (d + 2) 50 [.ptr b 0, .int .u8 (y : Int)] h = some (.ret .nifc, h') ∧ BldW h' b c' (l ++ [UInt8.ofNat y]) ∧ (c' = c ∨ h.next ≤ c') ∧ Tch [b, c] h h' := by
 obtain ⟨h1, e1, q1, t1⟩ := copyCheck_r (n := n) (d := d) k hx
 suffices hK : Wp (world n (d + 2) 50 [.ptr b 0, .int .u8 (y : Int)] h) fun r h' => ∃ c', r = .ret .nifc ∧ BldW h' b c' (l ++ [UInt8.ofNat y]) ∧ (c' = c ∨ h.next ≤ c') ∧ Tch [b, c] h h' by
  obtain ⟨_, h', e, c', rfl, q⟩ := hK
  exact ⟨c', h', e, q⟩
 rw [w_strings_Builder_WriteByte]
 unfold strings_Builder_WriteByte
 refine Wp.callN e1 ?_
 have hlt := q1.lt
 obtain ⟨a, buf, k1, k2, k3, k4⟩ := q1
 repeat (((with_reducible apply Wp.obind); first | (with_reducible first | exact nilC_ptr _ _ | exact fldP_ptr _ _ _) | ((with_reducible apply RowH.cell'); (with_reducible assumption); rfl)))
 refine Wp.outK ((bldSl_byte _ _).trans (out_news rfl (by rw [t1.2.1]; exact hu))) ?_
 have tN : Tch [] h1 (newH h1 TU8 [.int .u8 (y : Int)]) := Tch.newH _ _ _ _
 have kN := RowH.new h1 TU8 [.int .u8 (y : Int)]
 have nN := next_newH h1 TU8 [.int .u8 (y : Int)]
 have hyb : bytesC [UInt8.ofNat y] = [.int .u8 (y : Int)] := by
  show [AV.int .u8 ((UInt8.ofNat y).toNat : Int)] = _
  rw [UInt8.toNat_ofNat']
  rw [Nat.mod_eq_of_lt (by omega)]
 obtain ⟨buf', c', h2, a1, a2, a3, a4, a5⟩ := (k4.tch tN (by simp)).append1 (P := Try.prog) (t := 57) (u := 57) (x := .sl h1.next 0 1 1) (by omega) (UInt8.ofNat y) (by kernel_rfl) (by kernel_rfl) (by kernel_rfl) (by kernel_rfl) (by rw [tN.2.1, t1.2.1]; exact hu) rfl (by rw [hyb]; exact first_one kN rfl) hbig
 refine Wp.outK a1 ?_
 have k2' : RowH h2 b TBld [a, buf] := (k1.tch tN k2 (by simp)).same a5
 obtain ⟨o1, o2, _⟩ := a2.one
 rw [o2]
 repeat (((with_reducible apply Wp.obind); (with_reducible first | exact nilC_ptr _ _ | exact fldP_ptr _ _ _)))
 refine Wp.st1 k2' (by simp) o1 (fun h3 r1 r2 r3 => ?_)
 have n1 := t1.1
 have n2 := a4.1
 refine Wp.ret ⟨c', rfl, ⟨a, buf', r1, by omega, k3, a2.tch r2 (fun hc => by simpa using hc)⟩, by omega, ?_⟩
 exact (t1.mono (by simp)).trans ((tN.mono (by simp)).trans ((a4.mono (by simp)).trans (r2.mono (by simp))))
theorem len_r (k : BldW h b c l) : world n (d + 1) 48 [.ptr b 0] h = some (.ret (.int .i64 (l.length : Int)), h) := by
 obtain ⟨a, buf, k1, k2, k3, k4⟩ := k
 apply Wp.eq
 rw [w_strings_Builder_Len]
 unfold strings_Builder_Len
 repeat (((with_reducible apply Wp.obind); first | (with_reducible first | exact k4.one.2.2 | exact nilC_ptr _ _ | exact fldP_ptr _ _ _) | ((with_reducible apply RowH.cell'); (with_reducible assumption); rfl)))
 exact Wp.ret ⟨rfl, rfl⟩
theorem string_r (k : BldW h b c l) (hbig : l.length ≤ 1000000000) : ∃ h', world n (d + 1) 52 [.ptr b 0] h = some (.ret (strA l), h') ∧ Tch [b, c] h h' := by
 obtain ⟨a, buf, k1, k2, k3, k4⟩ := k
 apply Wp.ex
 rw [w_strings_Builder_String]
 unfold strings_Builder_String
 repeat (((with_reducible apply Wp.obind); first | (with_reducible first | exact nilC_ptr _ _ | exact fldP_ptr _ _ _) | ((with_reducible apply RowH.cell'); (with_reducible assumption); rfl)))
 refine Wp.obind k4.one.2.2 ?_
 rcases k4 with ⟨rfl, rfl, rfl⟩ | ⟨rfl, g0, g1, g2, g3⟩
 ·refine Wp.outK (show opSliceData h .nsl = some (.val .nilp, h) from rfl) ?_
  refine Wp.chk (by rw [reLoad_cell (P := Try.prog) (ty := 57) (by kernel_rfl) (k1.cell' rfl) same_nsl]; rfl) ?_
  refine Wp.outK (show opUnsafeStr Try.prog h 78 .nilp (.int .i64 0) = some (.val (strA []), h) from rfl) ?_
  repeat (((with_reducible apply Wp.obind); (with_reducible exact avStr_str _)))
  exact Wp.ret ⟨rfl, Tch.refl _ _⟩
 ·have d1 : opSliceData h (.sl c 0 l.length 1) = some (.val (.ptr c 0), h) := by
   cases l with
   | nil => exact absurd rfl g0
   | cons x l => rfl
  refine Wp.outK d1 ?_
  refine Wp.chk (by rw [reLoad_cell (P := Try.prog) (ty := 57) (by kernel_rfl) (k1.cell' rfl) (same_sl _ _ _ _)]; rfl) ?_
  have g4 := g3.part (o := 0) (n := (bytesC l).length) (by omega)
  rw [List.drop_zero, List.take_length, bytesC_length] at g4
  refine Wp.outK (unsafeStr_row (by kernel_rfl) g0 hbig g4 g3.type) ?_
  repeat (((with_reducible apply Wp.obind); (with_reducible exact avStr_str _)))
  exact Wp.ret ⟨rfl, Tch.put (.inl (by simp)) _⟩
end
end Go.Proofs.Ytjopejiooipmkaa

namespace Go.Proofs.Ytjopejiooipmkaa
open Go.RowKit Abs
section
variable {n d b p : Nat} {h : AHeap} {u : Bytes} {Q : ARes → AHeap → Prop}
theorem take_r (k : Rd h b u p) (hb : b < h.next) (hp : p ≤ u.length) (hu : u.length ≤ 1000000) (c : Nat) : Step b u h (world n (d + 4) 46 [.ptr b 0, .int .u8 (c : Int)] h) (if at? u p = some c then .ok (.tup [], p + 1) else .error (6, p)) := by
 have hs := skips_r (n := n) (d := d) k hb hp hu c
 by_cases hc : at? u p = some c
 ·rw [if_pos hc, decide_eq_true hc] at hs
  rw [if_pos hc]
  refine Step.ok_of ?_
  rw [w_pattern_reader_take]
  unfold pattern_reader_take
  refine Wp.stepN hs fun h' k1 k2 => ?_
  repeat (first | (with_reducible refine Wp.join0 (fun _ _ => ?_)) | (with_reducible refine Wp.lett ?_) | ((with_reducible apply Wp.obind); (with_reducible exact avBool_bool _)) | ((with_reducible refine Wp.iff ?_ ?_); (with_reducible exact Bool.not_true)) | (with_reducible refine Wp.go0 (by assumption) ?_))
  exact Wp.ret ⟨rfl, k1, k2⟩
 ·rw [if_neg hc, decide_eq_false hc] at hs
  rw [if_neg hc]
  refine Step.err_of ?_
  rw [w_pattern_reader_take]
  unfold pattern_reader_take
  refine Wp.stepN hs fun h' k1 k2 => ?_
  have hr := refuse_r (n := n) (d := d + 2) (h := h') 6 p
  repeat (first | (with_reducible refine Wp.join0 (fun _ _ => ?_)) | (with_reducible refine Wp.lett ?_) | ((with_reducible apply Wp.obind); first | (with_reducible first | exact avInt_int _ _ | exact avBool_bool _ | exact nilC_ptr _ _ | exact fldP_ptr _ _ _) | ((with_reducible apply RowH.cell'); (with_reducible assumption); rfl)) | ((with_reducible refine Wp.ift ?_ ?_); (with_reducible exact Bool.not_false)))
  exact Wp.callP hr ⟨rfl, p, k1, k2⟩
theorem quoted_loop {most : Int} {bb : Nat} {hp0 : AHeap} (ebb : newP hp0 = .ptr bb 0) {H0 : AHeap} (hb : b < H0.next) (hbb : bb < H0.next) (hne : b ≠ bb) (hu : u.length ≤ 1000000) (hn : 16 < n) (hxB : memB TBld H0.ex = true) (hx8 : memB TU8 H0.ex = false) {k10 : AHeap → R} :
  ∀ (fuel f p c : Nat) (acc : Bytes) (H : AHeap), fuel < f → u.length + 1 ≤ fuel + p → p ≤ u.length → acc.length ≤ p → Rd H b u p → BldW H bb c acc → (c = bb ∨ H0.next ≤ c) → Tch [b, bb] H0 H →
   (∀ l q c' H', scanQ u most fuel p acc = .ok l q → l.length ≤ u.length → Rd H' b u q → BldW H' bb c' l → (c' = bb ∨ H0.next ≤ c') → Tch [b, bb] H0 H' → Wp (k10 H') Q) →
   (∀ e q p' H', scanQ u most fuel p acc = .bad e q → Rd H' b u p' → Tch [b, bb] H0 H' → Q (.panic (PanA e q)) H') →
   Wp (pattern_reader_quoted_L0 (world n (d + 5)) (.ptr b 0) most hp0 k10 f H) Q
 | 0, f, p, c, acc, H, hf, hfu, hp, _, _, _, _, _, _, _ => by omega
 | fuel + 1, f + 1, p, c, acc, H, hf, hfu, hp, hacc, k, B, hc, t, hok, hbad => by
  rw [pattern_reader_quoted_L0_s]
  unfold pattern_reader_quoted_L0b
  have n0 := t.1
  have hs := skips_r (n := n) (d := d + 2) k (by omega) hp hu 34
  by_cases hq : at? u p = some 34
  ·rw [if_pos hq, decide_eq_true hq] at hs
   have hok' := hok acc (p + 1) 
   refine Wp.stepN hs fun h1 k1 t1 => ?_
   obtain ⟨hpl, _⟩ := at?_some hq
   repeat (first | (with_reducible refine Wp.lett ?_) | ((with_reducible apply Wp.obind); (with_reducible exact avBool_bool _)) | ((with_reducible refine Wp.iff ?_ ?_); (with_reducible exact Bool.not_true)))
   exact hok acc (p + 1) c h1 (by rw [scanQ, if_pos hq]) (by omega) k1 (B.tch t1 (by simpa using Ne.symm hne) (by simp; omega)) hc (t.trans (t1.mono (by simp)))
  ·rw [if_neg hq, decide_eq_false hq] at hs
   refine Wp.stepN hs fun h1 k1 t1 => ?_
   have B1 := B.tch t1 (by simpa using Ne.symm hne) (by simp; omega)
   have tt1 : Tch [b, bb] H0 h1 := t.trans (t1.mono (by simp))
   have n1 := t1.1
   have hl := len_r (n := n) (d := d + 4) B1
   rw [ebb]
   by_cases hm : (acc.length : Int) = most
   ·have hr := refuse_r (n := n) (d := d + 4) (h := h1) 3 p
    repeat (first | (with_reducible refine Wp.join0 (fun _ _ => ?_)) | (with_reducible refine Wp.lett ?_) | ((with_reducible apply Wp.obind); first | (with_reducible first | exact avInt_int _ _ | exact avBool_bool _ | exact nilC_ptr _ _ | exact fldP_ptr _ _ _) | ((with_reducible apply RowH.cell'); (with_reducible assumption); rfl)) | ((with_reducible refine Wp.ift ?_ ?_); first | (with_reducible exact Bool.not_false) | ((with_reducible apply beq_t); omega)) | ((with_reducible first | apply Wp.callN | apply Wp.callK); (with_reducible assumption)))
    exact Wp.callP hr (hbad 3 p p h1 (by rw [scanQ, if_neg hq, if_pos hm]) k1 tt1)
   ·have hfo := form_r (n := n) (d := d) k1 (by omega) hp hu hn hq
    cases hx : formAt u p with
    | bad q =>
     rw [hx] at hfo
     repeat (first | (with_reducible refine Wp.join0 (fun _ _ => ?_)) | (with_reducible refine Wp.lett ?_) | ((with_reducible apply Wp.obind); (with_reducible first | exact avInt_int _ _ | exact avBool_bool _)) | ((with_reducible refine Wp.ift ?_ ?_); (with_reducible exact Bool.not_false)) | ((with_reducible refine Wp.iff ?_ ?_); ((with_reducible apply beq_f); omega)) | ((with_reducible first | apply Wp.callN | apply Wp.callK); (with_reducible assumption)) | (with_reducible refine Wp.go0 (by assumption) ?_))
     exact Wp.stepE hfo fun h2 p2 k2 t2 => hbad 6 q p2 h2 (by rw [scanQ, if_neg hq, if_neg hm, hx]) k2 (tt1.trans (t2.mono (by simp)))
    | ok v q =>
     rw [hx] at hfo
     obtain ⟨hv, hq1, hq2⟩ := formAt_ok hx
     repeat (first | (with_reducible refine Wp.join0 (fun _ _ => ?_)) | (with_reducible refine Wp.lett ?_) | ((with_reducible apply Wp.obind); (with_reducible first | exact avInt_int _ _ | exact avBool_bool _)) | ((with_reducible refine Wp.ift ?_ ?_); (with_reducible exact Bool.not_false)) | ((with_reducible refine Wp.iff ?_ ?_); ((with_reducible apply beq_f); omega)) | ((with_reducible first | apply Wp.callN | apply Wp.callK); (with_reducible assumption)) | (with_reducible refine Wp.go0 (by assumption) ?_))
     refine Wp.stepK hfo fun h2 k2 t2 => ?_
     have B2 := B1.tch t2 (by simpa using Ne.symm hne) (by simp; omega)
     have tt2 : Tch [b, bb] H0 h2 := tt1.trans (t2.mono (by simp))
     have n2 := t2.1
     obtain ⟨c', h3, e3, B3, hc', t3⟩ := writeByte_r (n := n) (d := d + 3) B2 (by rw [tt2.2.1]; exact hxB) (by rw [tt2.2.1]; exact hx8) hv (by omega)
     have hbc : b ≠ c := by omega
     repeat (first | ((with_reducible apply Wp.obind); (with_reducible exact avInt_int _ _)) | ((with_reducible apply Wp.callN); (with_reducible assumption)))
     refine quoted_loop ebb hb hbb hne hu hn hxB hx8 fuel f q c' (acc ++ [UInt8.ofNat v]) h3 (by omega) (by omega) hq2 (by simp; omega) (k2.tch t3 (by omega) (by simp; exact ⟨hne, hbc⟩)) B3 (by omega) (tt2.trans' t3 (by intro x hx; simp only [List.mem_cons, List.not_mem_nil, or_false] at hx ⊢; omega)) ?_ ?_
     ·intro l q' c'' H' hsc
      exact hok l q' c'' H' (by rw [scanQ, if_neg hq, if_neg hm, hx]; exact hsc)
     ·intro e q' p' H' hsc
      exact hbad e q' p' H' (by rw [scanQ, if_neg hq, if_neg hm, hx]; exact hsc)
theorem quoted_r (k : Rd h b u 0) (hb : b < h.next) (hu : u.length ≤ 1000000) (hn : u.length + 20 < n) (most : Int) (hxB : memB TBld h.ex = true) (hx8 : memB TU8 h.ex = false) : Step b u h (world n (d + 6) 44 [.ptr b 0, .int .i64 most] h) (match quotedQ u most with
  | .ok l q => .ok (strA l, q)
  | .bad e q => .error (e, q)) := by
 have ht := take_r (n := n) (d := d + 1) k hb (Nat.zero_le _) hu 34
 unfold quotedQ
 by_cases hq : at? u 0 = some 34
 case neg =>
  rw [if_neg hq] at ht
  rw [if_neg hq]
  refine Step.err_of ?_
  rw [w_pattern_reader_quoted]
  unfold pattern_reader_quoted
  exact Wp.stepE ht fun h' p' k1 k2 => ⟨rfl, p', k1, k2⟩
 rw [if_pos hq] at ht
 rw [if_pos hq]
 obtain ⟨hpl, _⟩ := at?_some hq
 have main : ∀ Q : ARes → AHeap → Prop, (∀ l q h', scanQ u most (u.length + 1) 1 [] = .ok l q → Rd h' b u q → Tch [b] h h' → Q (.ret (strA l)) h') → (∀ e q p' h', scanQ u most (u.length + 1) 1 [] = .bad e q → Rd h' b u p' → Tch [b] h h' → Q (.panic (PanA e q)) h') → Wp (world n (d + 6) 44 [.ptr b 0, .int .i64 most] h) Q := by
  intro Q h1 h2
  rw [w_pattern_reader_quoted]
  unfold pattern_reader_quoted
  refine Wp.stepK ht fun h3 k3 t3 => ?_
  have n3 := t3.1
  have tN : Tch [] h3 (newH h3 TBld [.nilp, .nsl]) := Tch.newH _ _ _ _
  have B0 := BldR.new TBld TU8 h3
  have nN := next_newH h3 TBld [.nilp, .nsl]
  have k4 := k3.tch tN (by omega) (by simp)
  ((with_reducible refine Wp.lett ?_))
  generalize newH h3 TBld [.nilp, .nsl] = h4 at *
  ((with_reducible refine Wp.join0 (fun _ _ => ?_)))
  rename_i k10 hk10
  have tb : ∀ {h' : AHeap}, Tch [b, h3.next] h4 h' → Tch [b] h h' := fun t => (t3.trans (tN.mono (by simp))).trans' t (by intro x hx; simp only [List.mem_cons, List.not_mem_nil, or_false] at hx ⊢; omega)
  refine quoted_loop (newP_eq h3) (H0 := h4) (by omega) (by omega) (by omega) hu (by omega) (by rw [tN.2.1, t3.2.1]; exact hxB) (by rw [tN.2.1, t3.2.1]; exact hx8) (u.length + 1) n 1 h3.next [] h4 (by omega) (by omega) (by omega) (by simp) k4 B0 (.inl rfl) (Tch.refl _ _) ?_ ?_
  ·intro l q c' H' hsc hl k5 B5 hc5 t5
   obtain ⟨h6, e6, t6⟩ := string_r (n := n) (d := d + 4) B5 (by omega)
   have hbc : b ≠ c' := by omega
   repeat (first | ((with_reducible apply Wp.obind); (with_reducible exact avStr_str _)) | ((with_reducible apply Wp.callN); (with_reducible assumption)) | (with_reducible refine Wp.go0 (by assumption) ?_) | rw [newP_eq])
   refine Wp.ret (h1 l q h6 hsc (k5.tch t6 (lt_tch (tb t5) hb) (by simp; omega)) ?_)
   exact (tb t5).trans' t6 (by intro x hx; simp only [List.mem_cons, List.not_mem_nil, or_false] at hx ⊢; omega)
  ·intro e q p' H' hsc k5 t5
   exact h2 e q p' H' hsc k5 (tb t5)
 cases hsc : scanQ u most (u.length + 1) 1 [] with
 | ok l q =>
  rw [hsc] at main
  refine Step.ok_of (main _ (fun l' q' h' e k1 k2 => ?_) (fun e q p' h' hh => by cases hh))
  cases e
  exact ⟨rfl, k1, k2⟩
 | bad e q =>
  rw [hsc] at main
  refine Step.err_of (main _ (fun l' q' h' e k1 k2 => by cases e) (fun e q p' h' hh k1 k2 => ?_))
  cases hh
  exact ⟨rfl, p', k1, k2⟩
end
end Go.Proofs.Ytjopejiooipmkaa

namespace Go.Proofs.Ytjopejiooipmkaa
open Go.RowKit Abs
theorem callKd_eq_ret {x : R} {v : AV} {h : AHeap} {kp k : AV → AHeap → R} {Q : ARes → AHeap → Prop} (e : x = some (.ret v, h)) (hk : Wp (k v h) Q) : Wp (callKd x kp k) Q := by rw [e, callKd_ret]; exact hk
theorem callKd_eq_pan {x : R} {v : AV} {h : AHeap} {kp k : AV → AHeap → R} {Q : ARes → AHeap → Prop} (e : x = some (.panic v, h)) (hk : Wp (kp v h) Q) : Wp (callKd x kp k) Q := by rw [e, callKd_panic]; exact hk
theorem dynQ (call : CallF) (a b c : Nat) (h : AHeap) : dynC Try.prog call (AV.fn 43 [] [.ptr a 0, .ptr b 0, .ptr c 0]) [] h = call 43 [.ptr a 0, .ptr b 0, .ptr c 0] h := by
 have e : callV Try.prog h [] (some (AV.fn 43 [] [.ptr a 0, .ptr b 0, .ptr c 0])) = some (.call 43 [.ptr a 0, .ptr b 0, .ptr c 0], h) := by kernel_rfl
 unfold dynC
 rw [e]
theorem neqNil (h : AHeap) : opBin Try.prog h .neq 20 true (some .nifc) (some .nifc) = some (.val (.bool false), h) := by kernel_rfl
theorem neqPan (h : AHeap) (e : Int) (q : Nat) : opBin Try.prog h .neq 20 true (some (PanA e q)) (some .nifc) = some (.val (.bool true), h) := by kernel_rfl
theorem assertPan (h : AHeap) (e : Int) (q : Nat) : opAssert Try.prog h 65 true (some (PanA e q)) = some (.val (.tup [.agg [.int .i64 e, .int .i64 (q : Int)], .bool true]), h) := by kernel_rfl
abbrev TPtr : Nat := 59
abbrev TSpot : Nat := 27
section
variable {n d pc rd ft tx mo : Nat} {h h0 : AHeap} {u t : Bytes} {most : Int} {fc : List AV} {S : List Nat} {Q : ARes → AHeap → Prop} {ys : List RowT}
/-- the rows of a text in quotes -/
noncomputable abbrev rowsQ (pc rd ft tx mo p : Nat) (u t : Bytes) (most : Int) (fc : List AV) : List RowT := [(pc, TPtr, [.ptr rd 0]), (rd, 61, rdP u p), (ft, TSpot, fc), (tx, 9, [strA t]), (mo, 3, [.int .i64 most])]
theorem q1_r (Mx : Mem S h0 h (rowsQ pc rd ft tx mo 0 u t most fc)) (hu : u.length ≤ 1000000) (hn : u.length + 20 < n) (hxB : memB TBld h0.ex = true) (hx8 : memB TU8 h0.ex = false) : match quotedQ u most with
  | .ok l q => ∃ h', world n (d + 7) 43 [.ptr pc 0, .ptr mo 0, .ptr tx 0] h = some (.ret (.tup []), h') ∧ Mem S h0 h' (rowsQ pc rd ft tx mo q u l most fc)
  | .bad e q => ∃ h' p, world n (d + 7) 43 [.ptr pc 0, .ptr mo 0, .ptr tx 0] h = some (.panic (PanA e q), h') ∧ Mem S h0 h' (rowsQ pc rd ft tx mo p u t most fc) := by
 have hq := quoted_r (n := n) (d := d) Mx.at1.1 Mx.at1.2.1 hu hn most (by rw [Mx.ex]; exact hxB) (by rw [Mx.ex]; exact hx8)
 cases hs : quotedQ u most with
 | ok l q =>
  rw [hs] at hq
  apply Wp.ex
  rw [w_pattern_Quoted_1]
  unfold pattern_Quoted_1
  repeat (first | ((with_reducible apply Wp.obind); (with_reducible exact avInt_int _ _)) | ((with_reducible apply Wp.ld0 Mx); rfl) | ((with_reducible apply Wp.ld4 Mx); rfl))
  refine Wp.stepK hq fun h1 k1 t1 => ?_
  have Mz : Mem S h0 h1 (rowsQ pc rd ft tx mo q u t most fc) := Mem.upd (xs := [_]) Mx t1 k1
  clear Mx
  have Mx := Mz
  clear Mz
  repeat (first | ((with_reducible apply Wp.obind); (with_reducible exact avStr_str _)) | ((with_reducible apply Wp.ms3 Mx); exact Nat.le_of_ble_eq_true rfl; rfl; intro _ Mz; clear Mx; have Mx := Mz; clear Mz))
  exact Wp.ret ⟨rfl, Mx⟩
 | bad e q =>
  rw [hs] at hq
  suffices hK : Wp (world n (d + 7) 43 [.ptr pc 0, .ptr mo 0, .ptr tx 0] h) fun r h' => r = .panic (PanA e q) ∧ ∃ p, Mem S h0 h' (rowsQ pc rd ft tx mo p u t most fc) by
   obtain ⟨_, h', e1, rfl, p, k⟩ := hK
   exact ⟨h', p, e1, k⟩
  rw [w_pattern_Quoted_1]
  unfold pattern_Quoted_1
  repeat (first | ((with_reducible apply Wp.obind); (with_reducible exact avInt_int _ _)) | ((with_reducible apply Wp.ld0 Mx); rfl) | ((with_reducible apply Wp.ld4 Mx); rfl))
  exact Wp.stepE hq fun h1 p k1 t1 => ⟨rfl, p, Mem.upd (xs := [_]) Mx t1 k1⟩
theorem recov_nil {call : CallF} {b : Nat} {H : AHeap} : pattern_guard_1_d call n (.ptr b 0) .nifc H = some (.ret (.tup []), H) := by
 apply Wp.eq
 unfold pattern_guard_1_d
 repeat (first | (with_reducible refine Wp.join0 (fun _ _ => ?_)) | ((with_reducible apply Wp.obind); (with_reducible exact avBool_bool _)) | ((with_reducible refine Wp.iff ?_ ?_); (with_reducible rfl)) | ((with_reducible apply Wp.outK); (with_reducible exact neqNil _)) | (with_reducible refine Wp.go0 (by assumption) ?_))
 exact Wp.ret ⟨rfl, rfl⟩
theorem recov_pan {call : CallF} {b : Nat} {H : AHeap} {l : List AV} (hl : l.length = 2) (Mx : Mem S h0 H ((b, TSpot, l) :: ys)) (e : Int) (q : Nat) : ∃ H', pattern_guard_1_d call n (.ptr b 0) (PanA e q) H = some (.ret (.tup []), H') ∧ Mem S h0 H' ((b, TSpot, [.int .i64 e, .int .i64 (q : Int)]) :: ys) := by
 apply Wp.ex
 unfold pattern_guard_1_d
 repeat (first | ((with_reducible apply Wp.obind); (with_reducible exact avBool_bool _)) | ((with_reducible apply Wp.lr0 Mx); rfl) | ((with_reducible apply Wp.sa0 Mx); rfl; rfl; (rfl); intro _ Mz; clear Mx; have Mx := Mz; clear Mz) | ((with_reducible apply Wp.mnew Mx); intro _ Mz; clear Mx; have Mx := Mz; clear Mz) | (with_reducible refine Wp.join0 (fun _ _ => ?_)) | (with_reducible refine Wp.lett ?_) | ((with_reducible apply Wp.obind); (with_reducible first | exact avAgg_agg _ | exact extT_0 _ _ | exact extT_1 _ _ _)) | ((with_reducible refine Wp.ift ?_ ?_); (with_reducible rfl)) | ((with_reducible refine Wp.iff ?_ ?_); (with_reducible exact Bool.not_true)) | ((with_reducible apply Wp.outK); (with_reducible first | exact neqPan _ _ _ | exact assertPan _ _ _)) | (with_reducible refine Wp.go0 (by assumption) ?_) | rw [newP_eq])
 refine Wp.sa1 Mx rfl hl rfl (fun h' M' => ?_)
 repeat ((with_reducible refine Wp.go0 (by assumption) ?_))
 exact Wp.ret ⟨rfl, M'.pop⟩
theorem guard_r (Mx : Mem S h0 h (rowsQ pc rd ft tx mo 0 u t most fc)) (hu : u.length ≤ 1000000) (hn : u.length + 20 < n) (hxB : memB TBld h0.ex = true) (hx8 : memB TU8 h0.ex = false) : match quotedQ u most with
  | .ok l q => ∃ h', world n (d + 8) 42 [AV.fn 43 [] [.ptr pc 0, .ptr mo 0, .ptr tx 0]] h = some (.ret (.agg [.int .i64 0, .int .i64 0]), h') ∧ Mem S h0 h' (rowsQ pc rd ft tx mo q u l most fc)
  | .bad e q => ∃ h', world n (d + 8) 42 [AV.fn 43 [] [.ptr pc 0, .ptr mo 0, .ptr tx 0]] h = some (.ret (.agg [.int .i64 e, .int .i64 (q : Int)]), h') ∧ ∃ p, Mem S h0 h' (rowsQ pc rd ft tx mo p u t most fc) := by
 have Mb := (Mx.newH TSpot [.int .i64 0, .int .i64 0])
 have M1 : Mem (S := (rowsQ pc rd ft tx mo 0 u t most fc).map (·.1)) (newH h TSpot [.int .i64 0, .int .i64 0]) (newH h TSpot [.int .i64 0, .int .i64 0]) (rowsQ pc rd ft tx mo 0 u t most fc) := Mb.pop.base
 have hq := q1_r (n := n) (d := d) M1 hu hn (by show memB TBld h.ex = true; rw [Mx.ex]; exact hxB) (by show memB TU8 h.ex = false; rw [Mx.ex]; exact hx8)
 have back : ∀ {h' : AHeap} {rs : List RowT}, Mem ((rowsQ pc rd ft tx mo 0 u t most fc).map (·.1)) (newH h TSpot [.int .i64 0, .int .i64 0]) h' rs → Mem S h0 h' ((h.next, TSpot, [.int .i64 0, .int .i64 0]) :: rs) := fun M2 => by
  have := Mem.frame (xs := rowsQ pc rd ft tx mo 0 u t most fc) (rs := [(h.next, TSpot, [AV.int .i64 0, AV.int .i64 0])]) (Mb.perm List.perm_append_comm) M2
  exact this.perm (by simpa using (List.perm_append_comm (l₁ := [(h.next, TSpot, [AV.int .i64 0, AV.int .i64 0])])))
 cases hs : quotedQ u most with
 | ok l q =>
  rw [hs] at hq
  obtain ⟨h1, e1, M2⟩ := hq
  have Mx := back M2
  apply Wp.ex
  rw [w_pattern_guard]
  unfold pattern_guard
  refine Wp.lett ?_
  refine callKd_eq_ret ((dynQ _ _ _ _ _).trans e1) ?_
  repeat (first | ((with_reducible apply Wp.lr0 Mx); rfl) | ((with_reducible apply Wp.sa0 Mx); rfl; rfl; (rfl); intro _ Mz; clear Mx; have Mx := Mz; clear Mz) | ((with_reducible apply Wp.callN); (with_reducible exact recov_nil)) | rw [newP_eq])
  exact Wp.ret ⟨rfl, Mx.pop⟩
 | bad e q =>
  rw [hs] at hq
  obtain ⟨h1, p, e1, M2⟩ := hq
  have Mx := back M2
  apply Wp.ex
  rw [w_pattern_guard]
  unfold pattern_guard
  refine Wp.lett ?_
  refine callKd_eq_pan ((dynQ _ _ _ _ _).trans e1) ?_
  rw [newP_eq]
  obtain ⟨h2, e2, M3⟩ := recov_pan (n := n) (call := world n (d + 7)) rfl Mx e q
  refine Wp.callN e2 ?_
  clear Mx
  have Mx := M3
  repeat (((with_reducible apply Wp.lr0 Mx); rfl))
  exact Wp.ret ⟨rfl, p, Mx.pop⟩
/-- what Quoted hands back -/
def quotedV (u : Bytes) (most : Int) : Bytes × Int × Int × Int := match quotedQ u most with
 | .ok l q => (l, (q : Int), 0, 0)
 | .bad e q => ([], 0, e, (q : Int))
theorem scanQ_err : ∀ (fuel p : Nat) (acc : Bytes) {e : Int} {q : Nat}, scanQ u most fuel p acc = .bad e q → e ≠ 0
 | 0, p, acc, e, q, hh => by
  rw [scanQ] at hh
  cases hh
  decide
 | fuel + 1, p, acc, e, q, hh => by
  rw [scanQ] at hh
  split at hh
  ·cases hh
  ·split at hh
   ·cases hh
    decide
   ·split at hh
    ·exact scanQ_err fuel _ _ hh
    ·cases hh
     decide
theorem quotedQ_err {e : Int} {q : Nat} (hh : quotedQ u most = .bad e q) : e ≠ 0 := by
 unfold quotedQ at hh
 split at hh
 ·exact scanQ_err _ _ _ hh
 ·cases hh
  decide
set_option maxRecDepth 100000 in
theorem pQuoted_w (hu : u.length ≤ 1000000) (hn : u.length + 20 < n) (hxB : memB TBld h.ex = true) (hx8 : memB TU8 h.ex = false) : world n (d + 9) 41 [strA u, .int .i64 most] h = some (.ret (.tup [strA (quotedV u most).1, .int .i64 (quotedV u most).2.1, .agg [.int .i64 (quotedV u most).2.2.1, .int .i64 (quotedV u most).2.2.2]]), h) := by
 apply Wp.eq
 rw [w_pattern_Quoted]
 refine Wp.gc ?_
 suffices hK : Wp (pattern_Quoted (world n (d + 8)) n u most h) fun r h' => r = .ret (.tup [strA (quotedV u most).1, .int .i64 (quotedV u most).2.1, .agg [.int .i64 (quotedV u most).2.2.1, .int .i64 (quotedV u most).2.2.2]]) ∧ Tch [] h h' from hK.mono fun r h' ⟨e, t⟩ => ⟨t.above, by rw [e]; rfl, e, rfl⟩
 unfold pattern_Quoted
 have Mx := Mem.nil [] h
 repeat (first | ((with_reducible apply Wp.sa0 Mx); rfl; rfl; (rfl); intro _ Mz; clear Mx; have Mx := Mz; clear Mz) | ((with_reducible apply Wp.mnew Mx); intro _ Mz; clear Mx; have Mx := Mz; clear Mz) | ((with_reducible apply Wp.mbox Mx); (rfl); intro _ Mz; clear Mx; have Mx := Mz; clear Mz) | rw [newP_eq])
 have Mz : Mem [] h _ (rowsQ _ _ _ _ _ 0 u [] most [.int .i64 0, .int .i64 0]) := Mx
 have hg := guard_r (n := n) (d := d) Mz hu hn hxB hx8
 unfold quotedV
 cases hs : quotedQ u most with
 | ok l q =>
  rw [hs] at hg
  obtain ⟨h1, e1, M1⟩ := hg
  refine Wp.callN e1 ?_
  clear Mx
  have Mx := M1
  repeat (first | ((with_reducible apply Wp.obind); (with_reducible first | exact avInt_int _ _ | exact avStr_str _ | exact nilC_ptr _ _ | exact fldP_ptr _ _ _)) | ((with_reducible apply Wp.ld0 Mx); rfl) | ((with_reducible apply Wp.ld1 Mx); rfl) | ((with_reducible apply Wp.ld2 Mx); rfl) | ((with_reducible apply Wp.lr2 Mx); rfl) | ((with_reducible apply Wp.sa2 Mx); rfl; rfl; (rfl); intro _ Mz; clear Mx; have Mx := Mz; clear Mz) | ((with_reducible apply Wp.ld3 Mx); rfl) | ((with_reducible apply Wp.ms3 Mx); exact Nat.le_of_ble_eq_true rfl; rfl; intro _ Mz; clear Mx; have Mx := Mz; clear Mz) | ((with_reducible refine Wp.chk ?_ ?_); focus ((repeat' (first | (with_reducible exact rfl) | (with_reducible apply and_t) | ((with_reducible apply Mem.re0 Mx); kernel_rfl; rfl) | ((with_reducible apply Mem.re1 Mx); kernel_rfl; rfl) | ((with_reducible apply Mem.rr2 Mx); kernel_rfl; kernel_rfl))); done)) | (with_reducible refine Wp.lett ?_) | ((with_reducible apply Wp.obind); (with_reducible exact avAgg_agg _)) | ((with_reducible refine Wp.iff ?_ ?_); ((with_reducible apply bne_f); omega)))
  exact Wp.ret ⟨rfl, Mx.tch⟩
 | bad e q =>
  rw [hs] at hg
  have he := quotedQ_err hs
  obtain ⟨h1, e1, p, M1⟩ := hg
  refine Wp.callN e1 ?_
  clear Mx
  have Mx := M1
  repeat (first | ((with_reducible apply Wp.obind); (with_reducible exact avInt_int _ _)) | ((with_reducible apply Wp.ld2 Mx); rfl) | ((with_reducible apply Wp.lr2 Mx); rfl) | ((with_reducible apply Wp.sa2 Mx); rfl; rfl; (rfl); intro _ Mz; clear Mx; have Mx := Mz; clear Mz) | ((with_reducible apply Wp.ld3 Mx); rfl) | ((with_reducible apply Wp.ms3 Mx); exact Nat.le_of_ble_eq_true rfl; rfl; intro _ Mz; clear Mx; have Mx := Mz; clear Mz) | ((with_reducible refine Wp.chk ?_ ?_); focus ((repeat' (first | (with_reducible exact rfl) | (with_reducible apply and_t) | ((with_reducible apply Mem.rr2 Mx); kernel_rfl; kernel_rfl))); done)) | (with_reducible refine Wp.lett ?_) | ((with_reducible apply Wp.obind); (with_reducible exact avAgg_agg _)) | ((with_reducible refine Wp.ift ?_ ?_); ((with_reducible apply bne_t); omega)))
  exact Wp.ret ⟨rfl, Mx.tch⟩
end
end Go.Proofs.Ytjopejiooipmkaa

namespace Go.Proofs.Ytjopejiooipmkaa
open Go.RowKit Abs
section
variable {n d p : Nat} {h h0 : AHeap} {u : Bytes} {Q : ARes → AHeap → Prop} {S : List Nat}
end
end Go.Proofs.Ytjopejiooipmkaa

namespace Go.Proofs.Ytjopejiooipmkaa
open Go.RowKit Abs
section
variable {n d : Nat} {h h0 : AHeap} {u : Bytes} {Q : ARes → AHeap → Prop} {S : List Nat}
end
end Go.Proofs.Ytjopejiooipmkaa

namespace Go.Proofs.Ytjopejiooipmkaa
open Go.RowKit Abs
section
variable {n d : Nat} {h h0 : AHeap} {u : Bytes} {Q : ARes → AHeap → Prop} {S : List Nat}
theorem scan_fact {m : Int} : ∀ (fuel p : Nat) (acc : Bytes) {l : Bytes} {q : Nat}, scanQ u m fuel p acc = .ok l q → p + 1 ≤ q ∧ q ≤ u.length ∧ ((acc.length : Int) ≤ m → (l.length : Int) ≤ m)
 | 0, p, acc, l, q, hh => by rw [scanQ] at hh; cases hh
 | fuel + 1, p, acc, l, q, hh => by
  rw [scanQ] at hh
  split at hh
  ·rename_i h34
   obtain ⟨hp, _⟩ := at?_some h34
   cases hh
   exact ⟨Nat.le_refl _, hp, id⟩
  ·split at hh
   ·cases hh
   ·rename_i hne
    cases hF : formAt u p with
    | bad q => rw [hF] at hh; cases hh
    | ok c q' =>
     rw [hF] at hh
     obtain ⟨_, hpq, _⟩ := formAt_ok hF
     obtain ⟨a1, a2, a3⟩ := scan_fact fuel q' _ hh
     refine ⟨by omega, a2, fun hle => a3 ?_⟩
     simp
     omega
theorem form_take {p c q' q : Nat} (hF : formAt u p = .ok c q') (hq : q' ≤ q) : formAt (u.take q) p = .ok c q' := by
 rw [formAt_W] at hF ⊢
 cases hW : formW (u.drop p) with
 | bad k => rw [hW] at hF; cases hF
 | ok c' k =>
  rw [hW] at hF
  simp only [shiftF, FR.ok.injEq] at hF
  obtain ⟨rfl, rfl⟩ := hF
  obtain ⟨hc, hk, r, hr⟩ := formW_ok hW
  rw [List.drop_take, hr, List.take_append, List.take_of_length_le (by omega), formW_sign hc]
  rw [shiftF, hk]
theorem scan_take {m : Int} {q : Nat} {l : Bytes} : ∀ (fuel f2 p : Nat) (acc : Bytes), fuel ≤ f2 + p ∨ True → q ≤ f2 + p → scanQ u m fuel p acc = .ok l q → scanQ (u.take q) (-1) f2 p acc = .ok l q
 | 0, f2, p, acc, _, hf, hh => by rw [scanQ] at hh; cases hh
 | fuel + 1, f2, p, acc, _, hf, hh => by
  have hb := scan_fact _ _ _ hh
  obtain ⟨f2, rfl⟩ : ∃ k, f2 = k + 1 := ⟨f2 - 1, by omega⟩
  have hat : at? (u.take q) p = at? u p := by
   unfold at?
   rw [List.getElem?_take, if_pos (by omega)]
  rw [scanQ] at hh ⊢
  rw [hat]
  split at hh
  ·rename_i h34
   rw [if_pos h34]
   exact hh
  ·rename_i h34
   rw [if_neg h34, if_neg (by omega)]
   split at hh
   ·cases hh
   ·cases hF : formAt u p with
    | bad q' => rw [hF] at hh; cases hh
    | ok c q' =>
     rw [hF] at hh
     obtain ⟨_, hpq, _⟩ := formAt_ok hF
     have hb2 := scan_fact _ _ _ hh
     rw [form_take hF (by omega)]
     exact scan_take fuel f2 q' _ (.inr trivial) (by omega) hh
theorem quoted_fact {m : Int} {l : Bytes} {q : Nat} (hh : quotedQ u m = .ok l q) : 2 ≤ q ∧ q ≤ u.length ∧ (0 ≤ m → (l.length : Int) ≤ m) ∧ quotedQ (u.take q) (-1) = .ok l q := by
 unfold quotedQ at hh
 split at hh
 ·rename_i h34
  obtain ⟨a1, a2, a3⟩ := scan_fact _ _ _ hh
  refine ⟨a1, a2, fun hm => a3 (by simpa using hm), ?_⟩
  have hat : at? (u.take q) 0 = some 34 := by
   rw [← h34]
   unfold at?
   rw [List.getElem?_take, if_pos (by omega)]
  unfold quotedQ
  rw [if_pos hat]
  exact scan_take _ _ _ _ (.inr trivial) (by rw [List.length_take]; omega) hh
 ·cases hh
end
end Go.Proofs.Ytjopejiooipmkaa

namespace Go.Proofs.Ytjopejiooipmkaa
open Go.RowKit Abs
abbrev TTok : Nat := 31
inductive TR where
 | ok (k : Int) (t : Bytes) (m : Int) (p q : Nat)
 | bad (e : Int) (q : Nat)
noncomputable def tokC (k : Int) (t : Bytes) (m : Int) (p : Nat) : List AV := [.int .i64 k, strA t, .int .i64 m, .int .i64 (p : Int)]
noncomputable def TRV : TR → ARes
 | .ok k t m p q => .ret (.tup [.agg (tokC k t m p), .int .i64 (q : Int), .agg [.int .i64 0, .int .i64 0]])
 | .bad e q => .ret (.tup [.agg [.int .i64 0, .str 0 0, .int .i64 0, .int .i64 0], .int .i64 0, .agg [.int .i64 e, .int .i64 (q : Int)]])
theorem TRV_scal (x : TR) : (TRV x).val.scal = true := by cases x <;> rfl
def readWordQ (u : Bytes) (p : Nat) : TR := if spanN wordB (u.drop p) ≤ 16 then
  (if at? u (p + spanN wordB (u.drop p)) = some 58 then .ok 2 ((u.drop p).take (spanN wordB (u.drop p))) 0 p (p + spanN wordB (u.drop p) + 1) else .ok 1 ((u.drop p).take (spanN wordB (u.drop p))) 0 p (p + spanN wordB (u.drop p)))
 else .bad 3 (p + 16)
def readTextQ (u : Bytes) (p : Nat) : TR := match quotedQ (u.drop p) 64 with
 | .ok l q => .ok 4 l 0 p (p + q)
 | .bad e q => .bad e (p + q)
section
variable {n d p c b : Nat} {h h0 : AHeap} {u : Bytes} {Q : ARes → AHeap → Prop} {v : AV} {S : List Nat} {ys : List RowT}
theorem wordEnd_w (hu : u.length ≤ 1000000) (hn : u.length < n) (h : AHeap) : world n (d + 4) 17 [strA u, .int .i64 (p : Int)] h = some (.ret (runV wordB u p 16), h) := by
 have hr := run_w (p := p) (d := d + 2) (fun c H => dyn_word (n := n) (d := d) c H) hu hn 16 h
 rw [show ((16 : Nat) : Int) = 16 from rfl] at hr
 have : lex_wordEnd (world n (d + 3)) n u (p : Int) h = some (.ret (runV wordB u p 16), h) := by
  apply Wp.eq
  unfold lex_wordEnd
  unfold runV at hr ⊢
  by_cases hs : spanN wordB (u.drop p) ≤ 16
  ·rw [if_pos hs] at hr ⊢
   repeat (first | ((with_reducible apply Wp.obind); (with_reducible first | exact avInt_int _ _ | exact extT_0 _ _ | exact extT_1 _ _ _)) | ((with_reducible apply Wp.callN); (with_reducible exact hr)))
   exact Wp.ret ⟨rfl, rfl⟩
  ·rw [if_neg hs] at hr ⊢
   repeat (first | ((with_reducible apply Wp.obind); (with_reducible first | exact avInt_int _ _ | exact extT_0 _ _ | exact extT_1 _ _ _)) | ((with_reducible apply Wp.callN); (with_reducible exact hr)))
   exact Wp.ret ⟨rfl, rfl⟩
 rw [w_lex_wordEnd, this, gcR_scal (Above.refl _) (by unfold runV; split <;> rfl)]
theorem scan_bad {m : Int} {e : Int} {q : Nat} : ∀ (fuel p : Nat) (acc : Bytes), p ≤ u.length → scanQ u m fuel p acc = .bad e q → q ≤ u.length
 | 0, p, acc, hp, hh => by
  rw [scanQ] at hh
  cases hh
  exact hp
 | fuel + 1, p, acc, hp, hh => by
  rw [scanQ] at hh
  split at hh
  ·cases hh
  ·split at hh
   ·cases hh
    exact hp
   ·cases hF : formAt u p with
    | bad q' =>
     rw [hF] at hh
     cases hh
     exact (formAt_bad hF hp).2
    | ok c q' =>
     rw [hF] at hh
     exact scan_bad fuel q' _ (formAt_ok hF).2.2 hh
theorem quoted_bad {m : Int} {e : Int} {q : Nat} (hh : quotedQ u m = .bad e q) : q ≤ u.length := by
 unfold quotedQ at hh
 split at hh
 ·rename_i h34
  obtain ⟨hp, _⟩ := at?_some h34
  exact scan_bad _ _ _ hp hh
 ·cases hh
  omega
theorem sl_nat {a b : Nat} (h1 : a ≤ b) (h2 : b ≤ u.length) : sliceS u (a : Int) (b : Int) = some ((u.drop a).take (b - a)) := by
 have := sliceS_int (l := u) (a := (a : Int)) (b := (b : Int)) (by omega) (by omega) (by omega)
 simpa using this
theorem readWord_w (hu : u.length ≤ 1000000) (hn : u.length < n) (hp : p ≤ u.length) (h : AHeap) : world n (d + 5) 37 [strA u, .int .i64 (p : Int)] h = some (TRV (readWordQ u p), h) := by
 apply Wp.eq
 rw [w_lex_readWord]
 refine Wp.gc ?_
 suffices hK : Wp (lex_readWord (world n (d + 4)) n u (p : Int) h) fun r h' => r = TRV (readWordQ u p) ∧ Tch [] h h' from hK.mono fun r h' ⟨e, t⟩ => ⟨t.above, by rw [e]; exact TRV_scal _, e, rfl⟩
 unfold lex_readWord
 have Mx := Mem.nil [] h
 have lu := lenS_nat u
 have hr := fun H => wordEnd_w (n := n) (d := d) (p := p) hu hn H
 unfold readWordQ
 unfold runV at hr
 have hle := span_le wordB (u.drop p)
 rw [List.length_drop] at hle
 by_cases hs : spanN wordB (u.drop p) ≤ 16
 ·rw [if_pos hs]
  rw [if_pos hs] at hr
  have hsl := sl_nat (u := u) (a := p) (b := p + spanN wordB (u.drop p)) (by omega) (by omega)
  rw [Nat.add_sub_cancel_left] at hsl
  obtain ⟨k, hk⟩ : ∃ k, k = spanN wordB (u.drop p) := ⟨_, rfl⟩
  rw [← hk] at hr hsl hs hle ⊢
  by_cases hl : p + k < u.length
  ·have hx : idxS u ((p + k : Nat) : Int) = some ((u[p + k]).toNat : Int) := idxS_nat hl
   by_cases h58 : (u[p + k]).toNat = 58
   ·rw [if_pos (by rw [at?_lt hl, h58])]
    repeat (first | ((with_reducible apply Wp.obind); (with_reducible exact avInt_int _ _)) | ((with_reducible apply Wp.lr0 Mx); rfl) | ((with_reducible apply Wp.sa0 Mx); rfl; rfl; (rfl); intro _ Mz; clear Mx; have Mx := Mz; clear Mz) | ((with_reducible apply Wp.lr1 Mx); rfl) | ((with_reducible apply Wp.ms1 Mx); exact Nat.le_of_ble_eq_true rfl; rfl; intro _ Mz; clear Mx; have Mx := Mz; clear Mz) | ((with_reducible apply Wp.sa1 Mx); rfl; rfl; (rfl); intro _ Mz; clear Mx; have Mx := Mz; clear Mz) | ((with_reducible apply Wp.mnew Mx); intro _ Mz; clear Mx; have Mx := Mz; clear Mz) | (with_reducible refine Wp.join1 (fun _ _ => ?_)) | ((with_reducible refine Wp.lettw ?_ ?_ ?_); omega; omega) | (with_reducible refine Wp.lett ?_) | ((with_reducible apply Wp.obind); (with_reducible first | exact hsl | exact hx | exact extT_0 _ _ | exact extT_1 _ _ _)) | ((with_reducible refine Wp.ift ?_ ?_); ((with_reducible first | apply decide_eq_true | apply bne_t | apply beq_t); omega)) | ((with_reducible refine Wp.iff ?_ ?_); ((with_reducible apply bne_f); omega)) | ((with_reducible apply Wp.callN); (with_reducible exact hr _)) | (with_reducible refine Wp.go1 (by assumption) ?_) | rw [newP_eq])
    exact Wp.ret ⟨rfl, Mx.tch⟩
   ·rw [if_neg (by rw [at?_lt hl]; simp; exact h58)]
    repeat (first | ((with_reducible apply Wp.obind); (with_reducible exact avInt_int _ _)) | ((with_reducible apply Wp.lr0 Mx); rfl) | ((with_reducible apply Wp.sa0 Mx); rfl; rfl; (rfl); intro _ Mz; clear Mx; have Mx := Mz; clear Mz) | ((with_reducible apply Wp.lr1 Mx); rfl) | ((with_reducible apply Wp.sa1 Mx); rfl; rfl; (rfl); intro _ Mz; clear Mx; have Mx := Mz; clear Mz) | ((with_reducible apply Wp.mnew Mx); intro _ Mz; clear Mx; have Mx := Mz; clear Mz) | (with_reducible refine Wp.join1 (fun _ _ => ?_)) | (with_reducible refine Wp.lett ?_) | ((with_reducible apply Wp.obind); (with_reducible first | exact hsl | exact hx | exact extT_0 _ _ | exact extT_1 _ _ _)) | ((with_reducible refine Wp.ift ?_ ?_); ((with_reducible first | apply decide_eq_true | apply bne_t | apply beq_t); omega)) | ((with_reducible refine Wp.iff ?_ ?_); ((with_reducible first | apply bne_f | apply beq_f); omega)) | ((with_reducible apply Wp.callN); (with_reducible exact hr _)) | (with_reducible refine Wp.go1 (by assumption) ?_) | rw [newP_eq])
    exact Wp.ret ⟨rfl, Mx.tch⟩
  ·rw [if_neg (by rw [at?_ge (by omega)]; simp)]
   repeat (first | ((with_reducible apply Wp.obind); (with_reducible exact avInt_int _ _)) | ((with_reducible apply Wp.lr0 Mx); rfl) | ((with_reducible apply Wp.sa0 Mx); rfl; rfl; (rfl); intro _ Mz; clear Mx; have Mx := Mz; clear Mz) | ((with_reducible apply Wp.lr1 Mx); rfl) | ((with_reducible apply Wp.sa1 Mx); rfl; rfl; (rfl); intro _ Mz; clear Mx; have Mx := Mz; clear Mz) | ((with_reducible apply Wp.mnew Mx); intro _ Mz; clear Mx; have Mx := Mz; clear Mz) | (with_reducible refine Wp.join1 (fun _ _ => ?_)) | (with_reducible refine Wp.lett ?_) | ((with_reducible apply Wp.obind); (with_reducible first | exact hsl | exact extT_0 _ _ | exact extT_1 _ _ _)) | ((with_reducible refine Wp.iff ?_ ?_); first | (with_reducible rfl) | ((with_reducible first | apply decide_eq_false | apply bne_f); omega)) | ((with_reducible apply Wp.callN); (with_reducible exact hr _)) | (with_reducible refine Wp.go1 (by assumption) ?_) | rw [newP_eq])
   exact Wp.ret ⟨rfl, Mx.tch⟩
 ·rw [if_neg hs]
  rw [if_neg hs] at hr
  repeat (first | ((with_reducible apply Wp.obind); (with_reducible exact avInt_int _ _)) | ((with_reducible apply Wp.lr0 Mx); rfl) | ((with_reducible apply Wp.sa0 Mx); rfl; rfl; (rfl); intro _ Mz; clear Mx; have Mx := Mz; clear Mz) | ((with_reducible apply Wp.lr1 Mx); rfl) | ((with_reducible apply Wp.sa1 Mx); rfl; rfl; (rfl); intro _ Mz; clear Mx; have Mx := Mz; clear Mz) | ((with_reducible apply Wp.mnew Mx); intro _ Mz; clear Mx; have Mx := Mz; clear Mz) | (with_reducible refine Wp.lett ?_) | ((with_reducible apply Wp.obind); (with_reducible first | exact extT_0 _ _ | exact extT_1 _ _ _)) | ((with_reducible refine Wp.ift ?_ ?_); ((with_reducible apply bne_t); omega)) | ((with_reducible apply Wp.callN); (with_reducible exact hr _)) | rw [newP_eq])
  exact Wp.ret ⟨rfl, Mx.tch⟩
set_option maxRecDepth 100000 in
theorem readText_w (hu : u.length ≤ 1000000) (hn : u.length + 20 < n) (hp : p ≤ u.length) (hxB : memB TBld h.ex = true) (hx8 : memB TU8 h.ex = false) : world n (d + 10) 39 [strA u, .int .i64 (p : Int)] h = some (TRV (readTextQ u p), h) := by
 apply Wp.eq
 rw [w_lex_readText]
 refine Wp.gc ?_
 suffices hK : Wp (lex_readText (world n (d + 9)) n u (p : Int) h) fun r h' => r = TRV (readTextQ u p) ∧ Tch [] h h' from hK.mono fun r h' ⟨e, t⟩ => ⟨t.above, by rw [e]; exact TRV_scal _, e, rfl⟩
 unfold lex_readText
 have Mx := Mem.nil [] h
 have lu := lenS_nat u
 have hsl := sl_nat (u := u) (a := p) (b := u.length) hp (Nat.le_refl _)
 rw [List.take_of_length_le (by rw [List.length_drop]; omega), ← lu] at hsl
 have hq := fun (H : AHeap) (e : H.ex = h.ex) => pQuoted_w (n := n) (d := d) (h := H) (u := u.drop p) (most := 64) (by rw [List.length_drop]; omega) (by rw [List.length_drop]; omega) (by rw [e]; exact hxB) (by rw [e]; exact hx8)
 unfold quotedV at hq
 unfold readTextQ
 cases hs : quotedQ (u.drop p) 64 with
 | ok l q =>
  rw [hs] at hq
  dsimp only at hq ⊢
  have hql : q ≤ 1000000 := by
   have := (quoted_fact hs).2.1
   rw [List.length_drop] at this
   omega
  repeat (first | ((with_reducible apply Wp.obind); (with_reducible first | exact avInt_int _ _ | exact avStr_str _)) | ((with_reducible apply Wp.ld0 Mx); rfl) | ((with_reducible apply Wp.lr0 Mx); rfl) | ((with_reducible apply Wp.sa0 Mx); rfl; rfl; (rfl); intro _ Mz; clear Mx; have Mx := Mz; clear Mz) | ((with_reducible apply Wp.lr1 Mx); rfl) | ((with_reducible apply Wp.sa1 Mx); rfl; rfl; (rfl); intro _ Mz; clear Mx; have Mx := Mz; clear Mz) | ((with_reducible apply Wp.mnew Mx); intro _ Mz; clear Mx; have Mx := Mz; clear Mz) | ((with_reducible refine Wp.lettw ?_ ?_ ?_); omega; omega) | (with_reducible refine Wp.lett ?_) | ((with_reducible apply Wp.obind); (with_reducible first | exact hsl | exact avAgg_agg _ | exact extT_0 _ _ | exact extT_1 _ _ _ | exact extT_2 _ _ _ _)) | ((with_reducible refine Wp.iff ?_ ?_); ((with_reducible apply bne_f); omega)) | ((with_reducible apply Wp.callN); (with_reducible exact hq _ Mx.ex)) | rw [newP_eq])
  exact Wp.ret ⟨rfl, Mx.tch⟩
 | bad e q =>
  rw [hs] at hq
  dsimp only at hq ⊢
  have he := quotedQ_err hs
  have hql : q ≤ 1000000 := by
   have := quoted_bad hs
   rw [List.length_drop] at this
   omega
  repeat (first | ((with_reducible apply Wp.obind); (with_reducible first | exact avInt_int _ _ | exact avStr_str _)) | ((with_reducible apply Wp.ld0 Mx); rfl) | ((with_reducible apply Wp.lr0 Mx); rfl) | ((with_reducible apply Wp.sa0 Mx); rfl; rfl; (rfl); intro _ Mz; clear Mx; have Mx := Mz; clear Mz) | ((with_reducible apply Wp.lr1 Mx); rfl) | ((with_reducible apply Wp.sa1 Mx); rfl; rfl; (rfl); intro _ Mz; clear Mx; have Mx := Mz; clear Mz) | ((with_reducible apply Wp.mnew Mx); intro _ Mz; clear Mx; have Mx := Mz; clear Mz) | ((with_reducible refine Wp.chk ?_ ?_); focus ((repeat' (first | (with_reducible exact rfl) | (with_reducible apply and_t) | ((with_reducible apply Mem.re0 Mx); kernel_rfl; rfl))); done)) | ((with_reducible refine Wp.lettw ?_ ?_ ?_); omega; omega) | (with_reducible refine Wp.lett ?_) | ((with_reducible apply Wp.obind); (with_reducible first | exact hsl | exact avAgg_agg _ | exact extT_0 _ _ | exact extT_1 _ _ _ | exact extT_2 _ _ _ _)) | ((with_reducible refine Wp.ift ?_ ?_); ((with_reducible apply bne_t); omega)) | ((with_reducible apply Wp.callN); (with_reducible exact hq _ Mx.ex)) | rw [newP_eq])
  exact Wp.ret ⟨rfl, Mx.tch⟩
end
end Go.Proofs.Ytjopejiooipmkaa

namespace Go.Proofs.Ytjopejiooipmkaa
open Go.RowKit Abs
def numA : Bytes → Nat → Nat
 | [], a => a
 | c :: w, a => numA w (10 * a + (c.toNat - 48))
def readNumQ (u : Bytes) (p : Nat) : TR := if at? u p = some 48 then .ok 3 [] 0 p (p + 1) else if spanN digB (u.drop p) ≤ 4 then .ok 3 [] (numA ((u.drop p).take (spanN digB (u.drop p))) 0 : Nat) p (p + spanN digB (u.drop p)) else .bad 3 (p + 4)
theorem conv_str8 (h : AHeap) (w : Bytes) : opConv Try.prog h 9 57 (some (strA w)) = outNewS h TU8 (bytesC w) w.length 1 := by
 rw [← strCells_enc]
 kernel_rfl
theorem bytesC_get {w : Bytes} {i : Nat} (hi : i < w.length) : (bytesC w)[i]? = some (.int .u8 ((w[i]).toNat : Int)) := by
 unfold bytesC
 rw [List.getElem?_map, List.getElem?_eq_getElem hi]
 rfl
section
variable {n d p c b : Nat} {h h0 : AHeap} {u : Bytes} {Q : ARes → AHeap → Prop} {v : AV} {S : List Nat} {ys : List RowT}
theorem num_loop {w : Bytes} {sb fb : Nat} {k48 : AHeap → R} (hw : w.length ≤ 4) (hd : ∀ i (hi : i < w.length), 48 ≤ (w[i]).toNat ∧ (w[i]).toNat ≤ 57) :
  ∀ (f i a : Nat) (H : AHeap), w.length < f + i → i ≤ w.length → a < 10 ^ i → Mem [] h H [(sb, TU8, bytesC w), (fb, TSpot, [.int .i64 0, .int .i64 0]), (h.next, TTok, [.int .i64 3, .str 0 0, .int .i64 (a : Int), .int .i64 (p : Int)])] →
   (∀ H', Mem [] h H' [(sb, TU8, bytesC w), (fb, TSpot, [.int .i64 0, .int .i64 0]), (h.next, TTok, [.int .i64 3, .str 0 0, .int .i64 (numA (w.drop i) a : Nat), .int .i64 (p : Int)])] → Wp (k48 H') Q) →
   Wp (lex_readNumber_L0 h (.sl sb 0 w.length 1) (w.length : Int) k48 f (i : Int) H) Q
 | 0, i, a, H, hf, hi, ha, Mx, hk => by omega
 | f + 1, i, a, H, hf, hi, ha, Mx, hk => by
  rw [lex_readNumber_L0_s]
  unfold lex_readNumber_L0b
  by_cases hl : i < w.length
  ·have hx : idxP 1 (.sl sb 0 w.length 1) (i : Int) = some (.ptr sb i) := by rw [idxP_sl hl, Nat.zero_add, Nat.mul_one]
   have hc := Mx.at0.1.cell' (bytesC_get hl)
   obtain ⟨d1, d2⟩ := hd i hl
   have hp4 : 10 ^ i ≤ 10 ^ 4 := Nat.pow_le_pow_right (by decide) (by omega)
   have hp5 : (10 : Nat) ^ 4 = 10000 := rfl
   have hdr : numA (w.drop i) a = numA (w.drop (i + 1)) (10 * a + ((w[i]).toNat - 48)) := by
    rw [List.drop_eq_getElem_cons hl]
    rfl
   repeat (first | ((with_reducible apply Wp.obind); (with_reducible exact avInt_int _ _)) | ((with_reducible apply Wp.ld2 Mx); rfl) | ((with_reducible apply Wp.ms2 Mx); exact Nat.le_of_ble_eq_true rfl; rfl; intro _ Mz; clear Mx; have Mx := Mz; clear Mz) | ((with_reducible first | refine Wp.lettw ?_ ?_ ?_ | refine Wp.lettu8 ?_ ?_ ?_); omega; omega) | (with_reducible refine Wp.lett ?_) | ((with_reducible apply Wp.obind); (with_reducible first | exact hx | exact hc)) | ((with_reducible refine Wp.ift ?_ ?_); ((with_reducible apply decide_eq_true); omega)))
   rw [show (i : Int) + 1 = ((i + 1 : Nat) : Int) by omega]
   refine num_loop (sb := sb) (fb := fb) hw hd f (i + 1) (10 * a + ((w[i]).toNat - 48)) _ (by omega) (by omega) (by rw [Nat.pow_succ]; omega) ?_ ?_
   ·rw [show ((10 * a + ((w[i]).toNat - 48) : Nat) : Int) = 10 * (a : Int) + (((w[i]).toNat : Int) - 48) by omega]
    exact Mx
   ·intro H' M'
    exact hk H' (by rw [hdr]; exact M')
  ·have hdr : numA (w.drop i) a = a := by rw [List.drop_eq_nil_of_le (by omega)]; rfl
   repeat (first | (with_reducible refine Wp.lett ?_) | ((with_reducible refine Wp.iff ?_ ?_); ((with_reducible apply decide_eq_false); omega)))
   exact hk _ (by rw [hdr]; exact Mx)
theorem readNumber_w (hu : u.length ≤ 1000000) (hn : u.length + 10 < n) (hp : p < u.length) (hx8 : memB TU8 h.ex = false) : world n (d + 5) 38 [strA u, .int .i64 (p : Int)] h = some (TRV (readNumQ u p), h) := by
 apply Wp.eq
 rw [w_lex_readNumber]
 refine Wp.gc ?_
 suffices hK : Wp (lex_readNumber (world n (d + 4)) n u (p : Int) h) fun r h' => r = TRV (readNumQ u p) ∧ Tch [] h h' from hK.mono fun r h' ⟨e, t⟩ => ⟨t.above, by rw [e]; exact TRV_scal _, e, rfl⟩
 unfold lex_readNumber
 have Mx := Mem.nil [] h
 have lu := lenS_nat u
 have hx : idxS u (p : Int) = some ((u[p]).toNat : Int) := idxS_nat hp
 have hr := fun H => run_w (p := p) (d := d + 3) (fun c H => dyn_digit (n := n) (d := d + 2) c H) hu (by omega) 4 H
 rw [show ((4 : Nat) : Int) = 4 from rfl] at hr
 unfold readNumQ
 have hle := span_le digB (u.drop p)
 rw [List.length_drop] at hle
 by_cases h48 : (u[p]).toNat = 48
 ·rw [if_pos (by rw [at?_lt hp, h48])]
  repeat (first | ((with_reducible apply Wp.lr0 Mx); rfl) | ((with_reducible apply Wp.sa0 Mx); rfl; rfl; (rfl); intro _ Mz; clear Mx; have Mx := Mz; clear Mz) | ((with_reducible apply Wp.lr1 Mx); rfl) | ((with_reducible apply Wp.sa1 Mx); rfl; rfl; (rfl); intro _ Mz; clear Mx; have Mx := Mz; clear Mz) | ((with_reducible apply Wp.mnew Mx); intro _ Mz; clear Mx; have Mx := Mz; clear Mz) | ((with_reducible refine Wp.lettw ?_ ?_ ?_); omega; omega) | (with_reducible refine Wp.lett ?_) | ((with_reducible apply Wp.obind); (with_reducible exact hx)) | ((with_reducible refine Wp.ift ?_ ?_); ((with_reducible apply beq_t); omega)) | rw [newP_eq])
  exact Wp.ret ⟨rfl, Mx.tch⟩
 ·rw [if_neg (by rw [at?_lt hp]; simp; exact h48)]
  unfold runV at hr
  by_cases hs : spanN digB (u.drop p) ≤ 4
  ·rw [if_pos hs]
   rw [if_pos hs] at hr
   have hsl := sl_nat (u := u) (a := p) (b := p + spanN digB (u.drop p)) (by omega) (by omega)
   rw [Nat.add_sub_cancel_left] at hsl
   have hwl : ((u.drop p).take (spanN digB (u.drop p))).length = spanN digB (u.drop p) := by rw [List.length_take, List.length_drop]; omega
   have hdg : ∀ i (hi : i < ((u.drop p).take (spanN digB (u.drop p))).length), 48 ≤ (((u.drop p).take (spanN digB (u.drop p)))[i]).toNat ∧ (((u.drop p).take (spanN digB (u.drop p)))[i]).toNat ≤ 57 := by
    intro i hi
    have := span_lt (f := digB) (w := u.drop p) (i := i) (by omega) (by rw [List.length_drop]; omega)
    rw [List.getElem_take]
    simp [digB] at this
    simp
    omega
   obtain ⟨w, hw⟩ : ∃ w, w = (u.drop p).take (spanN digB (u.drop p)) := ⟨_, rfl⟩
   rw [← hw] at hsl hwl hdg ⊢
   repeat (first | ((with_reducible apply Wp.obind); (with_reducible exact avInt_int _ _)) | ((with_reducible apply Wp.sa1 Mx); rfl; rfl; (rfl); intro _ Mz; clear Mx; have Mx := Mz; clear Mz) | ((with_reducible apply Wp.mnew Mx); intro _ Mz; clear Mx; have Mx := Mz; clear Mz) | (with_reducible refine Wp.lett ?_) | ((with_reducible apply Wp.obind); (with_reducible first | exact hx | exact hsl | exact extT_0 _ _ | exact extT_1 _ _ _)) | ((with_reducible refine Wp.iff ?_ ?_); ((with_reducible first | apply bne_f | apply beq_f); omega)) | ((with_reducible apply Wp.callN); (with_reducible exact hr _)) | rw [newP_eq])
   refine Wp.mnews Mx (conv_str8 _ _) (bytesC_one _) hx8 (fun h1 M1 => ?_)
   clear Mx
   have Mx := M1
   clear M1
   have hll : ∀ sb, lenL (.sl sb 0 w.length 1) = some (w.length : Int) := fun _ => rfl
   repeat (first | (with_reducible refine Wp.join0 (fun _ _ => ?_)) | ((with_reducible apply Wp.obind); (with_reducible exact hll _)))
   refine num_loop (p := p) (by omega) hdg n 0 0 _ (by omega) (by omega) (by decide) Mx (fun H' M' => ?_)
   clear Mx
   have Mx := M'
   clear M'
   repeat (first | ((with_reducible apply Wp.lr1 Mx); rfl) | ((with_reducible apply Wp.sa1 Mx); rfl; rfl; (rfl); intro _ Mz; clear Mx; have Mx := Mz; clear Mz) | ((with_reducible apply Wp.lr2 Mx); rfl) | ((with_reducible apply Wp.sa2 Mx); rfl; rfl; (rfl); intro _ Mz; clear Mx; have Mx := Mz; clear Mz) | (with_reducible refine Wp.go0 (by assumption) ?_))
   exact Wp.ret ⟨by rw [← hwl]; rfl, Mx.tch⟩
  ·rw [if_neg hs]
   rw [if_neg hs] at hr
   repeat (first | ((with_reducible apply Wp.obind); (with_reducible exact avInt_int _ _)) | ((with_reducible apply Wp.lr0 Mx); rfl) | ((with_reducible apply Wp.sa0 Mx); rfl; rfl; (rfl); intro _ Mz; clear Mx; have Mx := Mz; clear Mz) | ((with_reducible apply Wp.lr1 Mx); rfl) | ((with_reducible apply Wp.sa1 Mx); rfl; rfl; (rfl); intro _ Mz; clear Mx; have Mx := Mz; clear Mz) | ((with_reducible apply Wp.mnew Mx); intro _ Mz; clear Mx; have Mx := Mz; clear Mz) | (with_reducible refine Wp.lett ?_) | ((with_reducible apply Wp.obind); (with_reducible first | exact hx | exact extT_0 _ _ | exact extT_1 _ _ _)) | ((with_reducible refine Wp.ift ?_ ?_); ((with_reducible first | apply bne_t | apply beq_t); omega)) | ((with_reducible refine Wp.iff ?_ ?_); ((with_reducible apply beq_f); omega)) | ((with_reducible apply Wp.callN); (with_reducible exact hr _)) | rw [newP_eq])
   exact Wp.ret ⟨rfl, Mx.tch⟩
end
end Go.Proofs.Ytjopejiooipmkaa

namespace Go.Proofs.Ytjopejiooipmkaa
open Go.RowKit Abs
def readQ (u : Bytes) (p : Nat) : TR := match at? u p with
 | none => .bad 6 p
 | some c => if smallB c = true then readWordQ u p else if digB c = true then readNumQ u p else if c = 34 then readTextQ u p else if c = 60 ∨ c = 123 ∨ c = 125 then .ok 5 ((u.drop p).take 1) 0 p (p + 1) else .bad 6 p
section
variable {n d p c b : Nat} {h h0 : AHeap} {u : Bytes} {Q : ARes → AHeap → Prop} {v : AV} {S : List Nat} {ys : List RowT}
set_option maxRecDepth 100000 in
theorem read_w (hu : u.length ≤ 1000000) (hn : u.length + 20 < n) (hp : p < u.length) (hxB : memB TBld h.ex = true) (hx8 : memB TU8 h.ex = false) : world n (d + 11) 33 [strA u, .int .i64 (p : Int)] h = some (TRV (readQ u p), h) := by
 apply Wp.eq
 rw [w_lex_read]
 refine Wp.gc ?_
 suffices hK : Wp (lex_read (world n (d + 10)) n u (p : Int) h) fun r h' => r = TRV (readQ u p) ∧ Tch [] h h' from hK.mono fun r h' ⟨e, t⟩ => ⟨t.above, by rw [e]; exact TRV_scal _, e, rfl⟩
 unfold lex_read
 have Mx := Mem.nil [] h
 have lu := lenS_nat u
 have hx : idxS u (p : Int) = some ((u[p]).toNat : Int) := idxS_nat hp
 have hs := fun H => small_w (n := n) (d := d + 9) (c := (u[p]).toNat) H
 have hd := fun H => digit_w (n := n) (d := d + 9) (c := (u[p]).toNat) H
 unfold readQ
 rw [at?_lt hp]
 dsimp only
 cases e1 : smallB (u[p]).toNat with
 | true =>
  rw [e1] at hs
  rw [if_pos rfl]
  have hr := fun H => readWord_w (n := n) (d := d + 5) (p := p) hu (by omega) (by omega) H
  cases hW : readWordQ u p with
  | ok k t m a q =>
   rw [hW] at hr
   unfold TRV tokC at hr
   repeat (first | ((with_reducible apply Wp.obind); (with_reducible first | exact avInt_int _ _ | exact avBool_bool _)) | ((with_reducible apply Wp.lr0 Mx); rfl) | ((with_reducible apply Wp.sa0 Mx); rfl; rfl; (rfl); intro _ Mz; clear Mx; have Mx := Mz; clear Mz) | ((with_reducible apply Wp.lr1 Mx); rfl) | ((with_reducible apply Wp.sa1 Mx); rfl; rfl; (rfl); intro _ Mz; clear Mx; have Mx := Mz; clear Mz) | ((with_reducible apply Wp.mnew Mx); intro _ Mz; clear Mx; have Mx := Mz; clear Mz) | ((with_reducible apply Wp.obind); (with_reducible first | exact hx | exact avAgg_agg _ | exact extT_0 _ _ | exact extT_1 _ _ _ | exact extT_2 _ _ _ _)) | ((with_reducible refine Wp.ift ?_ ?_); (with_reducible rfl)) | ((with_reducible apply Wp.callN); (with_reducible first | exact hs _ | exact hr _)) | rw [newP_eq])
   exact Wp.ret ⟨rfl, Mx.tch⟩
  | bad e q =>
   rw [hW] at hr
   unfold TRV at hr
   repeat (first | ((with_reducible apply Wp.obind); (with_reducible first | exact avInt_int _ _ | exact avBool_bool _)) | ((with_reducible apply Wp.lr0 Mx); rfl) | ((with_reducible apply Wp.sa0 Mx); rfl; rfl; (rfl); intro _ Mz; clear Mx; have Mx := Mz; clear Mz) | ((with_reducible apply Wp.lr1 Mx); rfl) | ((with_reducible apply Wp.sa1 Mx); rfl; rfl; (rfl); intro _ Mz; clear Mx; have Mx := Mz; clear Mz) | ((with_reducible apply Wp.mnew Mx); intro _ Mz; clear Mx; have Mx := Mz; clear Mz) | ((with_reducible apply Wp.obind); (with_reducible first | exact hx | exact avAgg_agg _ | exact extT_0 _ _ | exact extT_1 _ _ _ | exact extT_2 _ _ _ _)) | ((with_reducible refine Wp.ift ?_ ?_); (with_reducible rfl)) | ((with_reducible apply Wp.callN); (with_reducible first | exact hs _ | exact hr _)) | rw [newP_eq])
   exact Wp.ret ⟨rfl, Mx.tch⟩
 | false =>
  rw [e1] at hs
  rw [if_neg (by decide)]
  cases e2 : digB (u[p]).toNat with
  | true =>
   rw [e2] at hd
   rw [if_pos rfl]
   have hr := fun (H : AHeap) (hH : H.ex = h.ex) => readNumber_w (n := n) (d := d + 5) (h := H) (p := p) hu (by omega) hp (by rw [hH]; exact hx8)
   cases hW : readNumQ u p with
   | ok k t m a q =>
    rw [hW] at hr
    unfold TRV tokC at hr
    repeat (first | ((with_reducible apply Wp.obind); (with_reducible first | exact avInt_int _ _ | exact avBool_bool _)) | ((with_reducible apply Wp.lr0 Mx); rfl) | ((with_reducible apply Wp.sa0 Mx); rfl; rfl; (rfl); intro _ Mz; clear Mx; have Mx := Mz; clear Mz) | ((with_reducible apply Wp.lr1 Mx); rfl) | ((with_reducible apply Wp.sa1 Mx); rfl; rfl; (rfl); intro _ Mz; clear Mx; have Mx := Mz; clear Mz) | ((with_reducible apply Wp.mnew Mx); intro _ Mz; clear Mx; have Mx := Mz; clear Mz) | ((with_reducible apply Wp.obind); (with_reducible first | exact hx | exact avAgg_agg _ | exact extT_0 _ _ | exact extT_1 _ _ _ | exact extT_2 _ _ _ _)) | ((with_reducible refine Wp.ift ?_ ?_); (with_reducible rfl)) | ((with_reducible refine Wp.iff ?_ ?_); (with_reducible rfl)) | ((with_reducible apply Wp.callN); (with_reducible first | exact hs _ | exact hd _ | exact hr _ Mx.ex)) | rw [newP_eq])
    exact Wp.ret ⟨rfl, Mx.tch⟩
   | bad e q =>
    rw [hW] at hr
    unfold TRV at hr
    repeat (first | ((with_reducible apply Wp.obind); (with_reducible first | exact avInt_int _ _ | exact avBool_bool _)) | ((with_reducible apply Wp.lr0 Mx); rfl) | ((with_reducible apply Wp.sa0 Mx); rfl; rfl; (rfl); intro _ Mz; clear Mx; have Mx := Mz; clear Mz) | ((with_reducible apply Wp.lr1 Mx); rfl) | ((with_reducible apply Wp.sa1 Mx); rfl; rfl; (rfl); intro _ Mz; clear Mx; have Mx := Mz; clear Mz) | ((with_reducible apply Wp.mnew Mx); intro _ Mz; clear Mx; have Mx := Mz; clear Mz) | ((with_reducible apply Wp.obind); (with_reducible first | exact hx | exact avAgg_agg _ | exact extT_0 _ _ | exact extT_1 _ _ _ | exact extT_2 _ _ _ _)) | ((with_reducible refine Wp.ift ?_ ?_); (with_reducible rfl)) | ((with_reducible refine Wp.iff ?_ ?_); (with_reducible rfl)) | ((with_reducible apply Wp.callN); (with_reducible first | exact hs _ | exact hd _ | exact hr _ Mx.ex)) | rw [newP_eq])
    exact Wp.ret ⟨rfl, Mx.tch⟩
  | false =>
   rw [e2] at hd
   rw [if_neg (by decide)]
   by_cases h34 : (u[p]).toNat = 34
   ·rw [if_pos h34]
    have hr := fun (H : AHeap) (hH : H.ex = h.ex) => readText_w (n := n) (d := d) (h := H) (p := p) hu (by omega) (by omega) (by rw [hH]; exact hxB) (by rw [hH]; exact hx8)
    cases hW : readTextQ u p with
    | ok k t m a q =>
     rw [hW] at hr
     unfold TRV tokC at hr
     repeat (first | ((with_reducible apply Wp.obind); (with_reducible first | exact avInt_int _ _ | exact avBool_bool _)) | ((with_reducible apply Wp.lr0 Mx); rfl) | ((with_reducible apply Wp.sa0 Mx); rfl; rfl; (rfl); intro _ Mz; clear Mx; have Mx := Mz; clear Mz) | ((with_reducible apply Wp.lr1 Mx); rfl) | ((with_reducible apply Wp.sa1 Mx); rfl; rfl; (rfl); intro _ Mz; clear Mx; have Mx := Mz; clear Mz) | ((with_reducible apply Wp.mnew Mx); intro _ Mz; clear Mx; have Mx := Mz; clear Mz) | (with_reducible refine Wp.lett ?_) | ((with_reducible apply Wp.obind); (with_reducible first | exact hx | exact avAgg_agg _ | exact extT_0 _ _ | exact extT_1 _ _ _ | exact extT_2 _ _ _ _)) | ((with_reducible refine Wp.ift ?_ ?_); ((with_reducible apply beq_t); omega)) | ((with_reducible refine Wp.iff ?_ ?_); (with_reducible rfl)) | ((with_reducible apply Wp.callN); (with_reducible first | exact hs _ | exact hd _ | exact hr _ Mx.ex)) | rw [newP_eq])
     exact Wp.ret ⟨rfl, Mx.tch⟩
    | bad e q =>
     rw [hW] at hr
     unfold TRV at hr
     repeat (first | ((with_reducible apply Wp.obind); (with_reducible first | exact avInt_int _ _ | exact avBool_bool _)) | ((with_reducible apply Wp.lr0 Mx); rfl) | ((with_reducible apply Wp.sa0 Mx); rfl; rfl; (rfl); intro _ Mz; clear Mx; have Mx := Mz; clear Mz) | ((with_reducible apply Wp.lr1 Mx); rfl) | ((with_reducible apply Wp.sa1 Mx); rfl; rfl; (rfl); intro _ Mz; clear Mx; have Mx := Mz; clear Mz) | ((with_reducible apply Wp.mnew Mx); intro _ Mz; clear Mx; have Mx := Mz; clear Mz) | (with_reducible refine Wp.lett ?_) | ((with_reducible apply Wp.obind); (with_reducible first | exact hx | exact avAgg_agg _ | exact extT_0 _ _ | exact extT_1 _ _ _ | exact extT_2 _ _ _ _)) | ((with_reducible refine Wp.ift ?_ ?_); ((with_reducible apply beq_t); omega)) | ((with_reducible refine Wp.iff ?_ ?_); (with_reducible rfl)) | ((with_reducible apply Wp.callN); (with_reducible first | exact hs _ | exact hd _ | exact hr _ Mx.ex)) | rw [newP_eq])
     exact Wp.ret ⟨rfl, Mx.tch⟩
   ·rw [if_neg h34]
    have hsl := sl_nat (u := u) (a := p) (b := p + 1) (by omega) (by omega)
    rw [Nat.add_sub_cancel_left, show ((p + 1 : Nat) : Int) = (p : Int) + 1 by omega] at hsl
    by_cases h60 : (u[p]).toNat = 60
    ·rw [if_pos (.inl h60)]
     repeat (first | ((with_reducible apply Wp.obind); (with_reducible exact avBool_bool _)) | ((with_reducible apply Wp.lr0 Mx); rfl) | ((with_reducible apply Wp.sa0 Mx); rfl; rfl; (rfl); intro _ Mz; clear Mx; have Mx := Mz; clear Mz) | ((with_reducible apply Wp.lr1 Mx); rfl) | ((with_reducible apply Wp.sa1 Mx); rfl; rfl; (rfl); intro _ Mz; clear Mx; have Mx := Mz; clear Mz) | ((with_reducible apply Wp.mnew Mx); intro _ Mz; clear Mx; have Mx := Mz; clear Mz) | (with_reducible refine Wp.join1 (fun _ _ => ?_)) | ((with_reducible refine Wp.lettw ?_ ?_ ?_); omega; omega) | (with_reducible refine Wp.lett ?_) | ((with_reducible apply Wp.obind); (with_reducible first | exact hx | exact hsl)) | ((with_reducible refine Wp.ift ?_ ?_); first | (with_reducible rfl) | ((with_reducible apply beq_t); omega)) | ((with_reducible refine Wp.iff ?_ ?_); first | (with_reducible rfl) | ((with_reducible apply beq_f); omega)) | ((with_reducible apply Wp.callN); (with_reducible first | exact hs _ | exact hd _)) | (with_reducible refine Wp.go1 (by assumption) ?_) | rw [newP_eq])
     exact Wp.ret ⟨rfl, Mx.tch⟩
    ·by_cases h123 : (u[p]).toNat = 123
     ·rw [if_pos (.inr (.inl h123))]
      repeat (first | ((with_reducible apply Wp.obind); (with_reducible exact avBool_bool _)) | ((with_reducible apply Wp.lr0 Mx); rfl) | ((with_reducible apply Wp.sa0 Mx); rfl; rfl; (rfl); intro _ Mz; clear Mx; have Mx := Mz; clear Mz) | ((with_reducible apply Wp.lr1 Mx); rfl) | ((with_reducible apply Wp.sa1 Mx); rfl; rfl; (rfl); intro _ Mz; clear Mx; have Mx := Mz; clear Mz) | ((with_reducible apply Wp.mnew Mx); intro _ Mz; clear Mx; have Mx := Mz; clear Mz) | (with_reducible refine Wp.join1 (fun _ _ => ?_)) | ((with_reducible refine Wp.lettw ?_ ?_ ?_); omega; omega) | (with_reducible refine Wp.lett ?_) | ((with_reducible apply Wp.obind); (with_reducible first | exact hx | exact hsl)) | ((with_reducible refine Wp.ift ?_ ?_); first | (with_reducible rfl) | ((with_reducible apply beq_t); omega)) | ((with_reducible refine Wp.iff ?_ ?_); first | (with_reducible rfl) | ((with_reducible apply beq_f); omega)) | ((with_reducible apply Wp.callN); (with_reducible first | exact hs _ | exact hd _)) | (with_reducible refine Wp.go1 (by assumption) ?_) | rw [newP_eq])
      exact Wp.ret ⟨rfl, Mx.tch⟩
     ·by_cases h125 : (u[p]).toNat = 125
      ·rw [if_pos (.inr (.inr h125))]
       repeat (first | ((with_reducible apply Wp.obind); (with_reducible exact avBool_bool _)) | ((with_reducible apply Wp.lr0 Mx); rfl) | ((with_reducible apply Wp.sa0 Mx); rfl; rfl; (rfl); intro _ Mz; clear Mx; have Mx := Mz; clear Mz) | ((with_reducible apply Wp.lr1 Mx); rfl) | ((with_reducible apply Wp.sa1 Mx); rfl; rfl; (rfl); intro _ Mz; clear Mx; have Mx := Mz; clear Mz) | ((with_reducible apply Wp.mnew Mx); intro _ Mz; clear Mx; have Mx := Mz; clear Mz) | (with_reducible refine Wp.join1 (fun _ _ => ?_)) | ((with_reducible refine Wp.lettw ?_ ?_ ?_); omega; omega) | (with_reducible refine Wp.lett ?_) | ((with_reducible apply Wp.obind); (with_reducible first | exact hx | exact hsl)) | ((with_reducible refine Wp.ift ?_ ?_); ((with_reducible apply beq_t); omega)) | ((with_reducible refine Wp.iff ?_ ?_); first | (with_reducible rfl) | ((with_reducible apply beq_f); omega)) | ((with_reducible apply Wp.callN); (with_reducible first | exact hs _ | exact hd _)) | (with_reducible refine Wp.go1 (by assumption) ?_) | rw [newP_eq])
       exact Wp.ret ⟨rfl, Mx.tch⟩
      ·rw [if_neg (by omega)]
       repeat (first | ((with_reducible apply Wp.obind); (with_reducible exact avBool_bool _)) | ((with_reducible apply Wp.lr0 Mx); rfl) | ((with_reducible apply Wp.sa0 Mx); rfl; rfl; (rfl); intro _ Mz; clear Mx; have Mx := Mz; clear Mz) | ((with_reducible apply Wp.lr1 Mx); rfl) | ((with_reducible apply Wp.sa1 Mx); rfl; rfl; (rfl); intro _ Mz; clear Mx; have Mx := Mz; clear Mz) | ((with_reducible apply Wp.mnew Mx); intro _ Mz; clear Mx; have Mx := Mz; clear Mz) | (with_reducible refine Wp.join1 (fun _ _ => ?_)) | (with_reducible refine Wp.lett ?_) | ((with_reducible apply Wp.obind); (with_reducible exact hx)) | ((with_reducible refine Wp.iff ?_ ?_); first | (with_reducible rfl) | ((with_reducible apply beq_f); omega)) | ((with_reducible apply Wp.callN); (with_reducible first | exact hs _ | exact hd _)) | (with_reducible refine Wp.go1 (by assumption) ?_) | rw [newP_eq])
       exact Wp.ret ⟨rfl, Mx.tch⟩
end
end Go.Proofs.Ytjopejiooipmkaa

namespace Go.Proofs.Ytjopejiooipmkaa
open Go.RowKit Abs
def tokenQ (u : Bytes) (p : Nat) : TR := match readQ u p with
 | .ok k t m a q => if endsB u q = true ∨ ((at? u q).map blankB = some true) then .ok k t m a q else .bad 6 q
 | .bad e q => .bad e q
theorem elT : Abs.elemOf Try.prog 24 = some TTok := by kernel_rfl
theorem notT : notInt Try.prog 24 = true := by kernel_rfl
theorem cellsT : Try.prog.cellsOf TTok = 4 := by kernel_rfl
theorem bldSl_tok (h : AHeap) (a c e : Int) (t : Bytes) : bldSl Try.prog h 24 1 [(0, .agg [.int .i64 a, strA t, .int .i64 c, .int .i64 e])] = outNewS h TTok [.int .i64 a, strA t, .int .i64 c, .int .i64 e] 1 4 := by kernel_rfl
theorem rowSame_r {H : AHeap} {b : Nat} {e : TypeId} {l : List AV} (k : RowH H b e l) : rowSame H b e l = true := by
 obtain ⟨t, h1, h2⟩ := k
 unfold rowSame
 rw [h1]
 dsimp only
 have := take_of_get (t := t) (l := l) l.length 0 (fun i _ hi => h2 i (by omega)) (by omega)
 rw [List.drop_zero, List.take_length] at this
 rw [this]
 unfold sameLO
 simp [AV.sameL_self]
theorem and_rows {a c : Bool} (h1 : a = true) (h2 : c = true) : (a && (c && (true && (true && true)))) = true := by rw [h1, h2]; rfl
theorem readQ_le {u : Bytes} {p : Nat} {k m : Int} {t : Bytes} {a q : Nat} (hp : p < u.length) (hh : readQ u p = .ok k t m a q) : q ≤ u.length ∧ a = p := by
 unfold readQ at hh
 rw [at?_lt hp] at hh
 dsimp only at hh
 have hw := span_le wordB (u.drop p)
 have hd := span_le digB (u.drop p)
 rw [List.length_drop] at hw hd
 split at hh
 ·unfold readWordQ at hh
  split at hh
  ·split at hh
   ·rename_i h58
    obtain ⟨h1, _⟩ := at?_some h58
    simp only [TR.ok.injEq] at hh
    omega
   ·simp only [TR.ok.injEq] at hh
    omega
  ·cases hh
 ·split at hh
  ·unfold readNumQ at hh
   split at hh
   ·simp only [TR.ok.injEq] at hh
    omega
   ·split at hh
    ·simp only [TR.ok.injEq] at hh
     omega
    ·cases hh
  ·split at hh
   ·unfold readTextQ at hh
    cases hq : quotedQ (u.drop p) 64 with
    | ok l q' =>
     rw [hq] at hh
     have := (quoted_fact hq).2.1
     rw [List.length_drop] at this
     simp only [TR.ok.injEq] at hh
     omega
    | bad e q' => rw [hq] at hh; cases hh
   ·split at hh
    ·simp only [TR.ok.injEq] at hh
     omega
    ·cases hh
section
variable {n d p c b : Nat} {h h0 : AHeap} {u : Bytes} {Q : ARes → AHeap → Prop} {v : AV} {S : List Nat} {ys T : List RowT} {rows : List (List AV)}
set_option maxRecDepth 100000 in
theorem token_bad {e : Int} {q : Nat} (he : e ≠ 0) (hR : readQ u p = .bad e q) (Mx : Mem S h0 h ((b, TLex, [strA u, .int .i64 (p : Int), v]) :: T)) (hu : u.length ≤ 1000000) (hn : u.length + 20 < n) (hp : p < u.length) (hxB : memB TBld h0.ex = true) (hx8 : memB TU8 h0.ex = false) :
  ∃ h', world n (d + 12) 23 [.ptr b 0] h = some (.ret (.agg [.int .i64 e, .int .i64 (q : Int)]), h') ∧ Mem S h0 h' ((b, TLex, [strA u, .int .i64 (p : Int), v]) :: T) := by
 apply Wp.ex
 rw [w_lex_lexer_token]
 unfold lex_lexer_token
 have hr := fun (H : AHeap) (hH : H.ex = h0.ex) => read_w (n := n) (d := d) (h := H) hu hn hp (by rw [hH]; exact hxB) (by rw [hH]; exact hx8)
 rw [hR] at hr
 unfold TRV at hr
 repeat (first | ((with_reducible apply Wp.obind); (with_reducible first | exact avInt_int _ _ | exact avStr_str _ | exact nilC_ptr _ _ | exact fldP_ptr _ _ _)) | ((with_reducible apply Wp.ld0 Mx); rfl) | ((with_reducible apply Wp.lr0 Mx); rfl) | ((with_reducible apply Wp.sa0 Mx); rfl; rfl; (rfl); intro _ Mz; clear Mx; have Mx := Mz; clear Mz) | ((with_reducible apply Wp.ld1 Mx); rfl) | ((with_reducible apply Wp.sa1 Mx); rfl; rfl; (rfl); intro _ Mz; clear Mx; have Mx := Mz; clear Mz) | ((with_reducible apply Wp.lr2 Mx); rfl) | ((with_reducible apply Wp.sa2 Mx); rfl; rfl; (rfl); intro _ Mz; clear Mx; have Mx := Mz; clear Mz) | ((with_reducible apply Wp.mnew Mx); intro _ Mz; clear Mx; have Mx := Mz; clear Mz) | (with_reducible refine Wp.lett ?_) | ((with_reducible apply Wp.obind); (with_reducible first | exact avAgg_agg _ | exact extT_0 _ _ | exact extT_1 _ _ _ | exact extT_2 _ _ _ _)) | ((with_reducible refine Wp.ift ?_ ?_); ((with_reducible apply bne_t); omega)) | ((with_reducible apply Wp.callN); (with_reducible exact hr _ Mx.ex)) | ((with_reducible refine Wp.chk ?_ ?_); exact and_rows (rowSame_r Mx.at0.1) (rowSame_r Mx.pop.at0.1)) | rw [newP_eq])
 exact Wp.ret ⟨rfl, Mx.pop.pop.pop⟩
theorem fitT : fitB Try.prog TTok 40 = true := by kernel_rfl
set_option maxRecDepth 100000 in
theorem token_ok {k m : Int} {t : Bytes} {a q : Nat} (hR : readQ u p = .ok k t m a q) (g : GrowT TTok 4 rows v T) (hrow : rows.length ≤ 1000000) (Mx : Mem S h0 h ((b, TLex, [strA u, .int .i64 (p : Int), v]) :: T)) (hu : u.length ≤ 1000000) (hn : u.length + 20 < n) (hp : p < u.length) (hxB : memB TBld h0.ex = true) (hx8 : memB TU8 h0.ex = false) (hxT : memB TTok h0.ex = false) (hc : endsB u q = true ∨ ((at? u q).map blankB = some true)) :
  ∃ h', world n (d + 12) 23 [.ptr b 0] h = some (.ret (.agg [.int .i64 0, .int .i64 0]), h') ∧ ∃ v' T', GrowT TTok 4 (rows ++ [tokC k t m a]) v' T' ∧ Mem S h0 h' ((b, TLex, [strA u, .int .i64 (q : Int), v']) :: T') := by
 apply Wp.ex
 rw [w_lex_lexer_token]
 unfold lex_lexer_token
 have hr := fun (H : AHeap) (hH : H.ex = h0.ex) => read_w (n := n) (d := d) (h := H) hu hn hp (by rw [hH]; exact hxB) (by rw [hH]; exact hx8)
 rw [hR] at hr
 unfold TRV tokC at hr
 have hqu := (readQ_le hp hR).1
 cases he : endsB u q with
 | true =>
  have le := fun (H : AHeap) (ys : List RowT) (M : Mem S h0 H ((b, TLex, [strA u, .int .i64 (q : Int), v]) :: ys)) => lineEnds_w (n := n) (d := d + 10) M
  rw [he] at le
  repeat (first | ((with_reducible apply Wp.obind); (with_reducible first | exact avInt_int _ _ | exact avStr_str _ | exact nilC_ptr _ _ | exact fldP_ptr _ _ _)) | ((with_reducible apply Wp.ld0 Mx); rfl) | ((with_reducible apply Wp.sa0 Mx); rfl; rfl; (rfl); intro _ Mz; clear Mx; have Mx := Mz; clear Mz) | ((with_reducible apply Wp.ld1 Mx); rfl) | ((with_reducible apply Wp.sa1 Mx); rfl; rfl; (rfl); intro _ Mz; clear Mx; have Mx := Mz; clear Mz) | ((with_reducible apply Wp.ms3 Mx); exact Nat.le_of_ble_eq_true rfl; rfl; intro _ Mz; clear Mx; have Mx := Mz; clear Mz) | ((with_reducible apply Wp.mnew Mx); intro _ Mz; clear Mx; have Mx := Mz; clear Mz) | (with_reducible refine Wp.lett ?_) | ((with_reducible apply Wp.obind); (with_reducible first | exact avAgg_agg _ | exact extT_0 _ _ | exact extT_1 _ _ _ | exact extT_2 _ _ _ _)) | ((with_reducible refine Wp.iff ?_ ?_); ((with_reducible apply bne_f); omega)) | ((with_reducible apply Wp.callN); (with_reducible exact hr _ Mx.ex)) | ((with_reducible refine Wp.chk ?_ ?_); exact and_rows (rowSame_r Mx.at0.1) (rowSame_r Mx.pop.at0.1)) | rw [newP_eq])
  refine Wp.callN (le _ _ Mx.pop.pop.pop) ?_
  repeat (first | ((with_reducible apply Wp.obind); (with_reducible first | exact avBool_bool _ | exact nilC_ptr _ _ | exact fldP_ptr _ _ _)) | ((with_reducible apply Wp.lr1 Mx); rfl) | ((with_reducible apply Wp.ld3 Mx); rfl) | (with_reducible refine Wp.join1 (fun _ _ => ?_)) | (with_reducible refine Wp.lett ?_) | ((with_reducible refine Wp.iff ?_ ?_); (with_reducible first | rfl | exact Bool.not_true)) | (with_reducible refine Wp.go1 (by assumption) ?_))
  refine Wp.mnews Mx (bldSl_tok _ _ _ _ _) rfl hxT (fun h1 M1 => ?_)
  clear Mx
  have Mx := M1
  clear M1
  repeat (((with_reducible refine Wp.chk ?_ ?_); focus ((repeat' (first | (with_reducible exact rfl) | (with_reducible apply and_t) | ((with_reducible apply Mem.re4 Mx); kernel_rfl; rfl))); done)))
  refine Wp.grow (xs := [_, _, _, _]) (T := T) (sz := 4) (P := Try.prog) Mx g elT notT cellsT fitT hxT rfl rfl (by omega) (by omega) (fun v' h2 T' g' M2 => ?_)
  clear Mx
  have Mx := M2
  clear M2
  simp only [List.cons_append, List.nil_append, Nat.zero_add, List.set_cons_succ, List.set_cons_zero] at Mx
  have hv1 : AV.cells v' = [v'] := by rcases g'.2 with ⟨_, rfl, _⟩ | ⟨_, _, rfl, _⟩ <;> rfl
  have hv2 : v'.one = true := by rcases g'.2 with ⟨_, rfl, _⟩ | ⟨_, _, rfl, _⟩ <;> rfl
  rw [hv1]
  refine Wp.ms3 Mx (by simp) hv2 (fun h3 M3 => ?_)
  clear Mx
  have Mx := M3
  clear M3
  simp only [Nat.zero_add, List.set_cons_succ, List.set_cons_zero] at Mx
  repeat (first | ((with_reducible apply Wp.lr2 Mx); rfl) | ((with_reducible apply Wp.sa2 Mx); rfl; rfl; (rfl); intro _ Mz; clear Mx; have Mx := Mz; clear Mz))
  exact Wp.ret ⟨rfl, v', T', g', Mx.pop.pop.pop⟩
 | false =>
  have le := fun (H : AHeap) (ys : List RowT) (M : Mem S h0 H ((b, TLex, [strA u, .int .i64 (q : Int), v]) :: ys)) => lineEnds_w (n := n) (d := d + 10) M
  rw [he] at le hc
  have hb : (at? u q).map blankB = some true := by simpa using hc
  have hq : q < u.length := Decidable.byContradiction fun hh => by rw [at?_ge (by omega)] at hb; cases hb
  have hx : idxS u (q : Int) = some ((u[q]).toNat : Int) := idxS_nat hq
  have hbl := fun H => blank_w (n := n) (d := d + 10) (c := (u[q]).toNat) H
  rw [at?_lt hq] at hb
  simp only [Option.map_some, Option.some.injEq] at hb
  rw [hb] at hbl
  repeat (first | ((with_reducible apply Wp.obind); (with_reducible first | exact avInt_int _ _ | exact avStr_str _ | exact nilC_ptr _ _ | exact fldP_ptr _ _ _)) | ((with_reducible apply Wp.ld0 Mx); rfl) | ((with_reducible apply Wp.sa0 Mx); rfl; rfl; (rfl); intro _ Mz; clear Mx; have Mx := Mz; clear Mz) | ((with_reducible apply Wp.ld1 Mx); rfl) | ((with_reducible apply Wp.sa1 Mx); rfl; rfl; (rfl); intro _ Mz; clear Mx; have Mx := Mz; clear Mz) | ((with_reducible apply Wp.ms3 Mx); exact Nat.le_of_ble_eq_true rfl; rfl; intro _ Mz; clear Mx; have Mx := Mz; clear Mz) | ((with_reducible apply Wp.mnew Mx); intro _ Mz; clear Mx; have Mx := Mz; clear Mz) | (with_reducible refine Wp.lett ?_) | ((with_reducible apply Wp.obind); (with_reducible first | exact avAgg_agg _ | exact extT_0 _ _ | exact extT_1 _ _ _ | exact extT_2 _ _ _ _)) | ((with_reducible refine Wp.iff ?_ ?_); ((with_reducible apply bne_f); omega)) | ((with_reducible apply Wp.callN); (with_reducible exact hr _ Mx.ex)) | ((with_reducible refine Wp.chk ?_ ?_); exact and_rows (rowSame_r Mx.at0.1) (rowSame_r Mx.pop.at0.1)) | rw [newP_eq])
  refine Wp.callN (le _ _ Mx.pop.pop.pop) ?_
  repeat (first | ((with_reducible apply Wp.obind); (with_reducible first | exact avBool_bool _ | exact avStr_str _ | exact nilC_ptr _ _ | exact fldP_ptr _ _ _)) | ((with_reducible apply Wp.lr1 Mx); rfl) | ((with_reducible apply Wp.ld3 Mx); rfl) | (with_reducible refine Wp.join1 (fun _ _ => ?_)) | (with_reducible refine Wp.lett ?_) | ((with_reducible apply Wp.obind); (with_reducible exact hx)) | ((with_reducible refine Wp.ift ?_ ?_); (with_reducible exact Bool.not_false)) | ((with_reducible refine Wp.iff ?_ ?_); (with_reducible exact Bool.not_true)) | ((with_reducible apply Wp.callN); (with_reducible exact hbl _)) | (with_reducible refine Wp.go1 (by assumption) ?_))
  refine Wp.mnews Mx (bldSl_tok _ _ _ _ _) rfl hxT (fun h1 M1 => ?_)
  clear Mx
  have Mx := M1
  clear M1
  repeat (((with_reducible refine Wp.chk ?_ ?_); focus ((repeat' (first | (with_reducible exact rfl) | (with_reducible apply and_t) | ((with_reducible apply Mem.re4 Mx); kernel_rfl; rfl))); done)))
  refine Wp.grow (xs := [_, _, _, _]) (T := T) (sz := 4) (P := Try.prog) Mx g elT notT cellsT fitT hxT rfl rfl (by omega) (by omega) (fun v' h2 T' g' M2 => ?_)
  clear Mx
  have Mx := M2
  clear M2
  simp only [List.cons_append, List.nil_append, Nat.zero_add, List.set_cons_succ, List.set_cons_zero] at Mx
  have hv1 : AV.cells v' = [v'] := by rcases g'.2 with ⟨_, rfl, _⟩ | ⟨_, _, rfl, _⟩ <;> rfl
  have hv2 : v'.one = true := by rcases g'.2 with ⟨_, rfl, _⟩ | ⟨_, _, rfl, _⟩ <;> rfl
  rw [hv1]
  refine Wp.ms3 Mx (by simp) hv2 (fun h3 M3 => ?_)
  clear Mx
  have Mx := M3
  clear M3
  simp only [Nat.zero_add, List.set_cons_succ, List.set_cons_zero] at Mx
  repeat (first | ((with_reducible apply Wp.lr2 Mx); rfl) | ((with_reducible apply Wp.sa2 Mx); rfl; rfl; (rfl); intro _ Mz; clear Mx; have Mx := Mz; clear Mz))
  exact Wp.ret ⟨rfl, v', T', g', Mx.pop.pop.pop⟩
end
end Go.Proofs.Ytjopejiooipmkaa

namespace Go.Proofs.Ytjopejiooipmkaa
open Go.RowKit Abs
section
variable {n d p c b : Nat} {h h0 : AHeap} {u : Bytes} {Q : ARes → AHeap → Prop} {v : AV} {S : List Nat} {ys T : List RowT} {rows : List (List AV)}
theorem readQ_err {e : Int} {q : Nat} (hh : readQ u p = .bad e q) : e ≠ 0 := by
 unfold readQ at hh
 split at hh
 ·cases hh
  decide
 ·split at hh
  ·unfold readWordQ at hh
   split at hh
   ·split at hh <;> cases hh
   ·cases hh
    decide
  ·split at hh
   ·unfold readNumQ at hh
    split at hh
    ·cases hh
    ·split at hh
     ·cases hh
     ·cases hh
      decide
   ·split at hh
    ·unfold readTextQ at hh
     cases hq : quotedQ (u.drop p) 64 with
     | ok l q' => rw [hq] at hh; cases hh
     | bad e' q' =>
      rw [hq] at hh
      simp only [TR.bad.injEq] at hh
      rw [← hh.1]
      exact quotedQ_err hq
    ·split at hh
     ·cases hh
     ·cases hh
      decide
set_option maxRecDepth 100000 in
theorem token_odd {k m : Int} {t : Bytes} {a q : Nat} (hR : readQ u p = .ok k t m a q) (Mx : Mem S h0 h ((b, TLex, [strA u, .int .i64 (p : Int), v]) :: T)) (hu : u.length ≤ 1000000) (hn : u.length + 20 < n) (hp : p < u.length) (hxB : memB TBld h0.ex = true) (hx8 : memB TU8 h0.ex = false) (hc : ¬ (endsB u q = true ∨ ((at? u q).map blankB = some true))) :
  ∃ h', world n (d + 12) 23 [.ptr b 0] h = some (.ret (.agg [.int .i64 6, .int .i64 (q : Int)]), h') ∧ Mem S h0 h' ((b, TLex, [strA u, .int .i64 (q : Int), v]) :: T) := by
 apply Wp.ex
 rw [w_lex_lexer_token]
 unfold lex_lexer_token
 have hr := fun (H : AHeap) (hH : H.ex = h0.ex) => read_w (n := n) (d := d) (h := H) hu hn hp (by rw [hH]; exact hxB) (by rw [hH]; exact hx8)
 rw [hR] at hr
 unfold TRV tokC at hr
 have hqu := (readQ_le hp hR).1
 have le := fun (H : AHeap) (ys : List RowT) (M : Mem S h0 H ((b, TLex, [strA u, .int .i64 (q : Int), v]) :: ys)) => lineEnds_w (n := n) (d := d + 10) M
 have he : endsB u q = false := by
  cases he : endsB u q with
  | false => rfl
  | true => exact absurd (.inl he) hc
 rw [he] at le
 have hq : q < u.length := Decidable.byContradiction fun hh => by
  unfold endsB at he
  rw [at?_ge (by omega)] at he
  cases he
 have hx : idxS u (q : Int) = some ((u[q]).toNat : Int) := idxS_nat hq
 have hbl := fun H => blank_w (n := n) (d := d + 10) (c := (u[q]).toNat) H
 have hb : blankB (u[q]).toNat = false := by
  cases hb : blankB (u[q]).toNat with
  | false => rfl
  | true => exact absurd (.inr (by rw [at?_lt hq]; simp [hb])) hc
 rw [hb] at hbl
 repeat (first | ((with_reducible apply Wp.obind); (with_reducible first | exact avInt_int _ _ | exact avStr_str _ | exact nilC_ptr _ _ | exact fldP_ptr _ _ _)) | ((with_reducible apply Wp.ld0 Mx); rfl) | ((with_reducible apply Wp.sa0 Mx); rfl; rfl; (rfl); intro _ Mz; clear Mx; have Mx := Mz; clear Mz) | ((with_reducible apply Wp.ld1 Mx); rfl) | ((with_reducible apply Wp.sa1 Mx); rfl; rfl; (rfl); intro _ Mz; clear Mx; have Mx := Mz; clear Mz) | ((with_reducible apply Wp.ms3 Mx); exact Nat.le_of_ble_eq_true rfl; rfl; intro _ Mz; clear Mx; have Mx := Mz; clear Mz) | ((with_reducible apply Wp.mnew Mx); intro _ Mz; clear Mx; have Mx := Mz; clear Mz) | (with_reducible refine Wp.lett ?_) | ((with_reducible apply Wp.obind); (with_reducible first | exact avAgg_agg _ | exact extT_0 _ _ | exact extT_1 _ _ _ | exact extT_2 _ _ _ _)) | ((with_reducible refine Wp.iff ?_ ?_); ((with_reducible apply bne_f); omega)) | ((with_reducible apply Wp.callN); (with_reducible exact hr _ Mx.ex)) | ((with_reducible refine Wp.chk ?_ ?_); exact and_rows (rowSame_r Mx.at0.1) (rowSame_r Mx.pop.at0.1)) | rw [newP_eq])
 refine Wp.callN (le _ _ Mx.pop.pop.pop) ?_
 repeat (first | ((with_reducible apply Wp.obind); (with_reducible first | exact avBool_bool _ | exact avStr_str _ | exact nilC_ptr _ _ | exact fldP_ptr _ _ _)) | ((with_reducible apply Wp.lr2 Mx); rfl) | ((with_reducible apply Wp.sa2 Mx); rfl; rfl; (rfl); intro _ Mz; clear Mx; have Mx := Mz; clear Mz) | ((with_reducible apply Wp.ld3 Mx); rfl) | (with_reducible refine Wp.join1 (fun _ _ => ?_)) | (with_reducible refine Wp.lett ?_) | ((with_reducible apply Wp.obind); (with_reducible exact hx)) | ((with_reducible refine Wp.ift ?_ ?_); (with_reducible exact Bool.not_false)) | ((with_reducible apply Wp.callN); (with_reducible exact hbl _)) | (with_reducible refine Wp.go1 (by assumption) ?_))
 exact Wp.ret ⟨rfl, Mx.pop.pop.pop⟩
/-- a step, whatever stands there -/
theorem token_w (g : GrowT TTok 4 rows v T) (hrow : rows.length ≤ 1000000) (Mx : Mem S h0 h ((b, TLex, [strA u, .int .i64 (p : Int), v]) :: T)) (hu : u.length ≤ 1000000) (hn : u.length + 20 < n) (hp : p < u.length) (hxB : memB TBld h0.ex = true) (hx8 : memB TU8 h0.ex = false) (hxT : memB TTok h0.ex = false) : match tokenQ u p with
  | .ok k t m a q => ∃ h', world n (d + 12) 23 [.ptr b 0] h = some (.ret (.agg [.int .i64 0, .int .i64 0]), h') ∧ ∃ v' T', GrowT TTok 4 (rows ++ [tokC k t m a]) v' T' ∧ Mem S h0 h' ((b, TLex, [strA u, .int .i64 (q : Int), v']) :: T')
  | .bad e q => e ≠ 0 ∧ ∃ h', world n (d + 12) 23 [.ptr b 0] h = some (.ret (.agg [.int .i64 e, .int .i64 (q : Int)]), h') ∧ ∃ p', Mem S h0 h' ((b, TLex, [strA u, .int .i64 (p' : Int), v]) :: T) := by
 unfold tokenQ
 cases hR : readQ u p with
 | bad e q =>
  dsimp only
  have he := readQ_err hR
  obtain ⟨h', e1, M⟩ := token_bad (d := d) he hR Mx hu hn hp hxB hx8
  exact ⟨he, h', e1, p, M⟩
 | ok k t m a q =>
  dsimp only
  by_cases hc : endsB u q = true ∨ ((at? u q).map blankB = some true)
  ·rw [if_pos hc]
   exact token_ok hR g hrow Mx hu hn hp hxB hx8 hxT hc
  ·rw [if_neg hc]
   obtain ⟨h', e1, M⟩ := token_odd (d := d) hR Mx hu hn hp hxB hx8 hc
   exact ⟨by decide, h', e1, q, M⟩
end
end Go.Proofs.Ytjopejiooipmkaa

namespace Go.Proofs.Ytjopejiooipmkaa
open Go.RowKit Abs
section
variable {n d p c b : Nat} {h h0 h' : AHeap} {u : Bytes} {Q : ARes → AHeap → Prop} {v : AV} {S : List Nat} {xs rs ys T : List RowT} {rows : List (List AV)}
theorem Mem.self (M : Mem S h0 h (xs ++ rs)) : Mem (xs.map (·.1)) h h xs := by
 have hap := M.apart
 rw [List.map_append, List.nodup_append] at hap
 refine ⟨fun x hx => ?_, hap.1, Tch.refl _ _⟩
 obtain ⟨h1, h2, _⟩ := M.row x (List.mem_append_left _ hx)
 exact ⟨h1, h2, .inl (List.mem_map_of_mem hx)⟩
inductive LR where
 | ok (l : List (List AV)) (p : Nat)
 | bad (e : Int) (q : Nat)
/-- the tokens of a line's rest, behind blanks -/
noncomputable def restQ (u : Bytes) : Nat → Nat → List (List AV) → LR
 | 0, p, _ => .bad 6 p
 | f + 1, p, l => if endsB u p = true then .ok l p else match tokenQ u p with
  | .ok k t m a q => restQ u f (skipP u q) (l ++ [tokC k t m a])
  | .bad e q => .bad e q
/-- a line: its tokens behind those ahead, and the place behind its end -/
noncomputable def lineQ (u : Bytes) (p : Nat) (l : List (List AV)) : LR := match restQ u (u.length + 1) (skipP u p) l with
 | .ok l' q => .ok (if l.length < l'.length then l' ++ [tokC 6 [] 0 q] else l') (q + 1)
 | .bad e q => .bad e q
/-- the tokens of a text from a line's beginning on -/
noncomputable def lexQ (u : Bytes) : Nat → Nat → List (List AV) → LR
 | 0, p, l => .ok l p
 | f + 1, p, l => if p < u.length then (match lineQ u p l with
  | .ok l' q => lexQ u f q l'
  | .bad e q => .bad e q) else .ok l p
end
end Go.Proofs.Ytjopejiooipmkaa

namespace Go.Proofs.Ytjopejiooipmkaa
open Go.RowKit Abs
section
variable {n d p c b : Nat} {h h0 h' : AHeap} {u : Bytes} {Q : ARes → AHeap → Prop} {v : AV} {S : List Nat} {xs rs ys T : List RowT} {rows : List (List AV)}
theorem endsB_lt (h : endsB u p = false) : p < u.length := Decidable.byContradiction fun hh => by
 unfold endsB at h
 rw [at?_ge (by omega)] at h
 cases h
theorem tokenQ_le {k m : Int} {t : Bytes} {a q : Nat} (hp : p < u.length) (hh : tokenQ u p = .ok k t m a q) : q ≤ u.length := by
 unfold tokenQ at hh
 cases hR : readQ u p with
 | bad e q' => rw [hR] at hh; cases hh
 | ok k' t' m' a' q' =>
  rw [hR] at hh
  dsimp only at hh
  split at hh
  ·simp only [TR.ok.injEq] at hh
   have := (readQ_le hp hR).1
   omega
  ·cases hh
theorem readQ_lt {k m : Int} {t : Bytes} {a q : Nat} (hp : p < u.length) (hh : readQ u p = .ok k t m a q) : p < q := by
 unfold readQ at hh
 rw [at?_lt hp] at hh
 dsimp only at hh
 split at hh
 ·rename_i hs
  have h1 : 1 ≤ spanN wordB (u.drop p) := by
   rw [List.drop_eq_getElem_cons hp]
   unfold spanN
   rw [if_pos (by unfold wordB; rw [hs]; rfl)]
   omega
  unfold readWordQ at hh
  split at hh
  ·split at hh <;> (simp only [TR.ok.injEq] at hh; omega)
  ·cases hh
 ·split at hh
  ·rename_i hs
   have h1 : 1 ≤ spanN digB (u.drop p) := by
    rw [List.drop_eq_getElem_cons hp]
    unfold spanN
    rw [if_pos hs]
    omega
   unfold readNumQ at hh
   split at hh
   ·simp only [TR.ok.injEq] at hh
    omega
   ·split at hh
    ·simp only [TR.ok.injEq] at hh
     omega
    ·cases hh
  ·split at hh
   ·unfold readTextQ at hh
    cases hq : quotedQ (u.drop p) 64 with
    | ok l q' =>
     rw [hq] at hh
     have := (quoted_fact hq).1
     simp only [TR.ok.injEq] at hh
     omega
    | bad e q' => rw [hq] at hh; cases hh
   ·split at hh
    ·simp only [TR.ok.injEq] at hh
     omega
    ·cases hh
theorem tokenQ_lt {k m : Int} {t : Bytes} {a q : Nat} (hp : p < u.length) (hh : tokenQ u p = .ok k t m a q) : p < q := by
 unfold tokenQ at hh
 cases hR : readQ u p with
 | bad e q' => rw [hR] at hh; cases hh
 | ok k' t' m' a' q' =>
  rw [hR] at hh
  dsimp only at hh
  split at hh
  ·simp only [TR.ok.injEq] at hh
   have := readQ_lt hp hR
   omega
  ·cases hh
set_option maxRecDepth 100000 in
theorem line_loop {hb : AHeap} {k14 : AHeap → R} (hu : u.length ≤ 1000000) (hn : u.length + 20 < n) (hxB : memB TBld h0.ex = true) (hx8 : memB TU8 h0.ex = false) (hxT : memB TTok h0.ex = false) :
  ∀ (fu f p : Nat) (rows : List (List AV)) (v : AV) (T : List RowT) (H : AHeap), fu < f → rows.length ≤ p → p ≤ u.length → GrowT TTok 4 rows v T → Mem S h0 H (((b, TLex, [strA u, .int .i64 (p : Int), v]) :: T) ++ [(hb.next, TSpot, [.int .i64 0, .int .i64 0])]) →
   (∀ l q v' T' H', restQ u fu p rows = .ok l q → GrowT TTok 4 l v' T' → Mem S h0 H' (((b, TLex, [strA u, .int .i64 (q : Int), v']) :: T') ++ [(hb.next, TSpot, [.int .i64 0, .int .i64 0])]) → Wp (k14 H') Q) →
   (∀ e q H' l' T', restQ u fu p rows = .bad e q → e ≠ 0 → Mem S h0 H' ((b, TLex, l') :: T') → Q (.ret (.agg [.int .i64 e, .int .i64 (q : Int)])) H') →
   1 ≤ fu → u.length + 1 ≤ fu + p →
   Wp (lex_lexer_line_L0 (world n (d + 12)) (.ptr b 0) hb k14 f H) Q
 | fu, 0, p, rows, v, T, H, hf, hrp, hp, g, Mx, hok, hbad, _, _ => by omega
 | 0, f + 1, p, rows, v, T, H, hf, hrp, hp, g, Mx, hok, hbad, h1, _ => by omega
 | fu + 1, f + 1, p, rows, v, T, H, hf, hrp, hp, g, Mx, hok, hbad, h1, hfu => by
  rw [lex_lexer_line_L0_s]
  unfold lex_lexer_line_L0b
  have le := lineEnds_w (n := n) (d := d + 11) (ys := T ++ [(hb.next, TSpot, [.int .i64 0, .int .i64 0])]) Mx
  cases he : endsB u p with
  | true =>
   rw [he] at le
   refine Wp.callN le ?_
   repeat (first | (with_reducible refine Wp.lett ?_) | ((with_reducible apply Wp.obind); (with_reducible exact avBool_bool _)) | ((with_reducible refine Wp.iff ?_ ?_); (with_reducible exact Bool.not_true)))
   exact hok rows p v T H (by rw [restQ, if_pos he]) g Mx
  | false =>
   rw [he] at le
   have hlt := endsB_lt he
   have tk := token_w (d := d) g (by omega) (Mem.self Mx) hu hn hlt (by rw [Mx.ex]; exact hxB) (by rw [Mx.ex]; exact hx8) (by rw [Mx.ex]; exact hxT)
   have hst : restQ u (fu + 1) p rows = match tokenQ u p with
    | .ok k t m a q => restQ u fu (skipP u q) (rows ++ [tokC k t m a])
    | .bad e q => .bad e q := by rw [restQ, if_neg (by rw [he]; decide)] <;> rfl
   refine Wp.callN le ?_
   cases hT : tokenQ u p with
   | bad e q =>
    rw [hT] at tk hst
    dsimp only at tk hst
    obtain ⟨hne, h1, e1, p', M1⟩ := tk
    have M2 := Mx.frame M1
    have M3 := M2.perm List.perm_append_comm
    clear Mx
    have Mx := M3
    simp only [List.cons_append, List.nil_append] at Mx
    repeat (first | ((with_reducible apply Wp.obind); (with_reducible first | exact avInt_int _ _ | exact avBool_bool _)) | ((with_reducible apply Wp.ld0 Mx); rfl) | ((with_reducible apply Wp.lr0 Mx); rfl) | ((with_reducible apply Wp.sa0 Mx); rfl; rfl; (rfl); intro _ Mz; clear Mx; have Mx := Mz; clear Mz) | ((with_reducible apply Wp.lr1 Mx); rfl) | ((with_reducible apply Wp.sa1 Mx); rfl; rfl; (rfl); intro _ Mz; clear Mx; have Mx := Mz; clear Mz) | ((with_reducible apply Wp.mnew Mx); intro _ Mz; clear Mx; have Mx := Mz; clear Mz) | (with_reducible refine Wp.lett ?_) | ((with_reducible apply Wp.obind); (with_reducible exact avAgg_agg _)) | ((with_reducible refine Wp.ift ?_ ?_); first | (with_reducible exact Bool.not_false) | ((with_reducible apply bne_t); omega)) | ((with_reducible apply Wp.callN); (with_reducible assumption)) | rw [newP_eq])
    exact Wp.ret (hbad e q _ _ _ hst hne Mx.pop.pop)
   | ok k t m a q =>
    rw [hT] at tk hst
    dsimp only at tk hst
    obtain ⟨h1, e1, v', T', g', M1⟩ := tk
    have M2 := Mx.frame M1
    have hq := tokenQ_le hlt hT
    clear Mx
    have Mx := M2
    simp only [List.cons_append] at Mx
    repeat (first | ((with_reducible apply Wp.obind); (with_reducible first | exact avInt_int _ _ | exact avBool_bool _)) | ((with_reducible apply Wp.ld0 Mx); rfl) | ((with_reducible apply Wp.sa0 Mx); rfl; rfl; (rfl); intro _ Mz; clear Mx; have Mx := Mz; clear Mz) | ((with_reducible apply Wp.mnew Mx); intro _ Mz; clear Mx; have Mx := Mz; clear Mz) | (with_reducible refine Wp.lett ?_) | ((with_reducible apply Wp.obind); (with_reducible exact avAgg_agg _)) | ((with_reducible refine Wp.ift ?_ ?_); (with_reducible exact Bool.not_false)) | ((with_reducible refine Wp.iff ?_ ?_); ((with_reducible apply bne_f); omega)) | ((with_reducible apply Wp.callN); (with_reducible assumption)) | rw [newP_eq])
    obtain ⟨h2, e2, M5⟩ := skipBlanks_w (n := n) (d := d + 8) (u := u) (p := q) (b := b) (v := v') (S := S) (h0 := h0) (ys := T' ++ [(hb.next, TSpot, [.int .i64 0, .int .i64 0])]) Mx.pop hu (by omega) hq
    refine Wp.callN e2 ?_
    have hsk := skipP_le (u := u) hq
    have hpq : p < q := tokenQ_lt hlt hT
    refine line_loop hu hn hxB hx8 hxT fu f (skipP u q) (rows ++ [tokC k t m a]) v' T' h2 (by omega) (by simp; omega) (by omega) g' M5 ?_ ?_ (by omega) (by omega)
    ·intro l q' v2 T2 H' hr
     exact hok l q' v2 T2 H' (by rw [hst]; exact hr)
    ·intro e q' H' l' T2 hr
     exact hbad e q' H' l' T2 (by rw [hst]; exact hr)
end
end Go.Proofs.Ytjopejiooipmkaa

namespace Go.Proofs.Ytjopejiooipmkaa
open Go.RowKit Abs
section
variable {n d p c b : Nat} {h h0 h' : AHeap} {u : Bytes} {Q : ARes → AHeap → Prop} {v : AV} {S : List Nat} {xs rs ys T : List RowT} {rows : List (List AV)}
theorem restQ_grows : ∀ (f p : Nat) (l l' : List (List AV)) (q : Nat), restQ u f p l = .ok l' q → l.length ≤ l'.length ∧ p ≤ q ∧ (p ≤ u.length → q ≤ u.length) ∧ l'.length + p ≤ l.length + q
 | 0, p, l, l', q, hh => by rw [restQ] at hh; cases hh
 | f + 1, p, l, l', q, hh => by
  rw [restQ] at hh
  split at hh
  ·cases hh
   exact ⟨Nat.le_refl _, Nat.le_refl _, id, Nat.le_refl _⟩
  ·rename_i he
   have hlt : p < u.length := endsB_lt (by simpa using he)
   cases hT : tokenQ u p with
   | bad e q' => rw [hT] at hh; cases hh
   | ok k t m a q' =>
    rw [hT] at hh
    dsimp only at hh
    have h1 := tokenQ_lt hlt hT
    have h2 := tokenQ_le hlt hT
    have h3 := skipP_le (u := u) h2
    obtain ⟨a1, a2, a3, a4⟩ := restQ_grows f _ _ _ _ hh
    simp only [List.length_append, List.length_cons, List.length_nil] at a1 a4
    exact ⟨by omega, by omega, fun _ => a3 h3.1, by omega⟩
end
end Go.Proofs.Ytjopejiooipmkaa

namespace Go.Proofs.Ytjopejiooipmkaa
open Go.RowKit Abs
section
variable {n d p c b : Nat} {h h0 h' : AHeap} {u : Bytes} {Q : ARes → AHeap → Prop} {v : AV} {S : List Nat} {xs rs ys T : List RowT} {rows : List (List AV)}
theorem bldSl_end (h : AHeap) (e : Int) : bldSl Try.prog h 24 1 [(0, .agg [.int .i64 6, .str 0 0, .int .i64 0, .int .i64 e])] = outNewS h TTok [.int .i64 6, .str 0 0, .int .i64 0, .int .i64 e] 1 4 := by kernel_rfl
set_option maxRecDepth 100000 in
theorem line_w (g : GrowT TTok 4 rows v T) (hrow : rows.length ≤ p) (Mx : Mem S h0 h ((b, TLex, [strA u, .int .i64 (p : Int), v]) :: T)) (hu : u.length ≤ 1000000) (hn : u.length + 20 < n) (hp : p ≤ u.length) (hxB : memB TBld h0.ex = true) (hx8 : memB TU8 h0.ex = false) (hxT : memB TTok h0.ex = false) : match lineQ u p rows with
  | .ok l q => ∃ h', world n (d + 13) 13 [.ptr b 0] h = some (.ret (.agg [.int .i64 0, .int .i64 0]), h') ∧ ∃ v' T', GrowT TTok 4 l v' T' ∧ Mem S h0 h' ((b, TLex, [strA u, .int .i64 (q : Int), v']) :: T')
  | .bad e q => e ≠ 0 ∧ ∃ h', world n (d + 13) 13 [.ptr b 0] h = some (.ret (.agg [.int .i64 e, .int .i64 (q : Int)]), h') ∧ Mem S h0 h' [] := by
 suffices hK : Wp (world n (d + 13) 13 [.ptr b 0] h) fun r h' => match lineQ u p rows with
   | .ok l q => r = .ret (.agg [.int .i64 0, .int .i64 0]) ∧ ∃ v' T', GrowT TTok 4 l v' T' ∧ Mem S h0 h' ((b, TLex, [strA u, .int .i64 (q : Int), v']) :: T')
   | .bad e q => e ≠ 0 ∧ r = .ret (.agg [.int .i64 e, .int .i64 (q : Int)]) ∧ Mem S h0 h' [] by
  obtain ⟨r, h', e, q⟩ := hK
  cases hl : lineQ u p rows with
  | ok l q' =>
   rw [hl] at q
   exact ⟨h', by rw [e, q.1], q.2⟩
  | bad e' q' =>
   rw [hl] at q
   exact ⟨q.1, h', by rw [e, q.2.1], q.2.2⟩
 rw [w_lex_lexer_line]
 unfold lex_lexer_line
 have hlen := g.len
 have hsk := skipP_le (u := u) hp
 iterate 5 (first | ((with_reducible apply Wp.obind); (with_reducible first | exact nilC_ptr _ _ | exact fldP_ptr _ _ _)) | ((with_reducible apply Wp.ld1 Mx); rfl) | ((with_reducible apply Wp.mnew Mx); intro _ Mz; clear Mx; have Mx := Mz; clear Mz) | ((with_reducible apply Wp.obind); (with_reducible exact hlen)))
 have M2 : Mem S h0 _ (((b, TLex, [strA u, .int .i64 (p : Int), v]) :: T) ++ [(h.next, TSpot, [.int .i64 0, .int .i64 0])]) := Mx.perm (List.perm_append_comm (l₁ := _ :: T) (l₂ := [_]))
 obtain ⟨h2, e2, M5⟩ := skipBlanks_w (n := n) (d := d + 8) M2 hu (by omega) hp
 refine Wp.callN e2 ?_
 refine Wp.join0 (fun k hk => ?_)
 refine line_loop hu hn hxB hx8 hxT (u.length + 1) n (skipP u p) rows v T h2 (by omega) (by omega) hsk.1 g M5 ?_ ?_ (by omega) (by omega)
 ·intro l q v' T' H' hr g' M6
  clear Mx M2 M5
  have hlen' := g'.len
  obtain ⟨a1, a2, a3, a4⟩ := restQ_grows _ _ _ _ _ hr
  have a5 := a3 hsk.1
  have Mx : Mem S h0 _ ([(h.next, TSpot, [.int .i64 0, .int .i64 0])] ++ ((b, TLex, [strA u, .int .i64 (q : Int), v']) :: T')) := M6.perm (List.perm_append_comm (l₁ := [_]) (l₂ := _ :: T'))
  simp only [List.cons_append, List.nil_append] at Mx
  clear M6
  rw [hk]
  clear hk
  unfold lineQ
  rw [hr]
  dsimp only
  by_cases hg : rows.length < l.length
  ·rw [if_pos hg]
   repeat (first | ((with_reducible apply Wp.obind); (with_reducible first | exact avInt_int _ _ | exact nilC_ptr _ _ | exact fldP_ptr _ _ _)) | ((with_reducible apply Wp.ld1 Mx); rfl) | (with_reducible refine Wp.join0 (fun _ _ => ?_)) | (with_reducible refine Wp.lett ?_) | ((with_reducible apply Wp.obind); (with_reducible exact hlen')) | ((with_reducible refine Wp.ift ?_ ?_); ((with_reducible apply decide_eq_true); omega)))
   refine Wp.mnews Mx (bldSl_end _ _) rfl hxT (fun h1 M1 => ?_)
   clear Mx
   have Mx := M1
   clear M1
   repeat (((with_reducible refine Wp.chk ?_ ?_); focus ((repeat' (first | (with_reducible exact rfl) | (with_reducible apply and_t) | ((with_reducible apply Mem.re2 Mx); kernel_rfl; rfl))); done)))
   refine Wp.grow (xs := [_, _]) (T := T') (sz := 4) (P := Try.prog) Mx g' elT notT cellsT fitT hxT rfl rfl (by omega) (by omega) (fun v2 h2 T2 g2 M2 => ?_)
   clear Mx
   have Mx := M2
   clear M2
   simp only [List.cons_append, List.nil_append] at Mx
   rw [g2.one.2]
   iterate 2 (((with_reducible apply Wp.obind); (with_reducible first | exact nilC_ptr _ _ | exact fldP_ptr _ _ _)))
   refine Wp.ms1 Mx (by simp) g2.one.1 (fun h3 M3 => ?_)
   clear Mx
   have Mx := M3
   clear M3
   simp only [Nat.zero_add, List.set_cons_succ, List.set_cons_zero] at Mx
   repeat (first | ((with_reducible apply Wp.obind); (with_reducible first | exact avInt_int _ _ | exact nilC_ptr _ _ | exact fldP_ptr _ _ _)) | ((with_reducible apply Wp.lr0 Mx); rfl) | ((with_reducible apply Wp.sa0 Mx); rfl; rfl; (rfl); intro _ Mz; (try simp only [List.set_cons_succ] at Mz); (try simp only [List.set_cons_zero] at Mz); clear Mx; have Mx := Mz; clear Mz) | ((with_reducible apply Wp.ld1 Mx); rfl) | ((with_reducible apply Wp.ms1 Mx); exact Nat.le_of_ble_eq_true rfl; rfl; intro _ Mz; (try simp only [List.set_cons_succ] at Mz); (try simp only [List.set_cons_zero] at Mz); clear Mx; have Mx := Mz; clear Mz) | ((with_reducible refine Wp.lettw ?_ ?_ ?_); omega; omega) | (with_reducible refine Wp.go0 (by assumption) ?_) | rw [newP_eq])
   exact Wp.ret ⟨rfl, v2, T2, g2, Mx.pop⟩
  ·rw [if_neg hg]
   repeat (first | ((with_reducible apply Wp.obind); (with_reducible first | exact avInt_int _ _ | exact nilC_ptr _ _ | exact fldP_ptr _ _ _)) | ((with_reducible apply Wp.lr0 Mx); rfl) | ((with_reducible apply Wp.sa0 Mx); rfl; rfl; (rfl); intro _ Mz; (try simp only [List.set_cons_succ] at Mz); (try simp only [List.set_cons_zero] at Mz); clear Mx; have Mx := Mz; clear Mz) | ((with_reducible apply Wp.ld1 Mx); rfl) | ((with_reducible apply Wp.ms1 Mx); exact Nat.le_of_ble_eq_true rfl; rfl; intro _ Mz; (try simp only [List.set_cons_succ] at Mz); (try simp only [List.set_cons_zero] at Mz); clear Mx; have Mx := Mz; clear Mz) | (with_reducible refine Wp.join0 (fun _ _ => ?_)) | ((with_reducible refine Wp.lettw ?_ ?_ ?_); omega; omega) | (with_reducible refine Wp.lett ?_) | ((with_reducible apply Wp.obind); (with_reducible exact hlen')) | ((with_reducible refine Wp.iff ?_ ?_); ((with_reducible apply decide_eq_false); omega)) | (with_reducible refine Wp.go0 (by assumption) ?_) | rw [newP_eq])
   exact Wp.ret ⟨rfl, v', T', g', Mx.pop⟩
 ·intro e q H' l' T' hr he M6
  unfold lineQ
  rw [hr]
  exact ⟨he, rfl, Mem.drop (xs := _ :: T') (by rw [List.append_nil]; exact M6)⟩
theorem lineQ_fact {l l' : List (List AV)} {q : Nat} (hh : lineQ u p l = .ok l' q) (hp : p ≤ u.length) : p < q ∧ q ≤ u.length + 1 ∧ l'.length + p ≤ l.length + q ∧ l.length ≤ l'.length := by
 unfold lineQ at hh
 have hsk := skipP_le (u := u) hp
 cases hr : restQ u (u.length + 1) (skipP u p) l with
 | bad e q' => rw [hr] at hh; cases hh
 | ok l2 q2 =>
  rw [hr] at hh
  dsimp only at hh
  obtain ⟨a1, a2, a3, a4⟩ := restQ_grows _ _ _ _ _ hr
  have a5 := a3 hsk.1
  simp only [LR.ok.injEq] at hh
  obtain ⟨rfl, rfl⟩ := hh
  split
  ·simp only [List.length_append, List.length_cons, List.length_nil]
   omega
  ·omega
end
end Go.Proofs.Ytjopejiooipmkaa

namespace Go.Proofs.Ytjopejiooipmkaa
open Go.RowKit Abs
/-- the tokens of a text -/
noncomputable def lexAll (u : Bytes) : LR := if 2048 < u.length then .bad 3 2048 else lexQ u (u.length + 1) 0 []
section
variable {n d p c b : Nat} {h h0 h' : AHeap} {u : Bytes} {Q : ARes → AHeap → Prop} {v : AV} {S : List Nat} {xs rs ys T : List RowT} {rows : List (List AV)}
set_option maxRecDepth 100000 in
theorem lex_loop {hb H2 : AHeap} {k18 : AHeap → R} (hu : u.length ≤ 1000000) (hn : u.length + 20 < n) (hxB : memB TBld h0.ex = true) (hx8 : memB TU8 h0.ex = false) (hxT : memB TTok h0.ex = false) :
  ∀ (fu f p : Nat) (rows : List (List AV)) (v : AV) (T : List RowT) (H : AHeap), fu < f → rows.length ≤ p → p ≤ u.length + 1 → GrowT TTok 4 rows v T → Mem S h0 H (((H2.next, TLex, [strA u, .int .i64 (p : Int), v]) :: T) ++ [(hb.next, TSpot, [.int .i64 0, .int .i64 0])]) →
   (∀ l q v' T' H', lexQ u fu p rows = .ok l q → GrowT TTok 4 l v' T' → Mem S h0 H' (((H2.next, TLex, [strA u, .int .i64 (q : Int), v']) :: T') ++ [(hb.next, TSpot, [.int .i64 0, .int .i64 0])]) → Wp (k18 H') Q) →
   (∀ e q H', lexQ u fu p rows = .bad e q → e ≠ 0 → Mem S h0 H' [] → Q (.ret (.tup [.nsl, .agg [.int .i64 e, .int .i64 (q : Int)]])) H') →
   u.length + 1 ≤ fu + p →
   Wp (lex_Lex_L0 (world n (d + 13)) u hb H2 k18 f H) Q
 | fu, 0, p, rows, v, T, H, hf, hrp, hp, g, Mx, hok, hbad, _ => by omega
 | 0, f + 1, p, rows, v, T, H, hf, hrp, hp, g, Mx, hok, hbad, hfu => by
  rw [lex_Lex_L0_s]
  unfold lex_Lex_L0b
  have lu := lenS_nat u
  repeat (first | ((with_reducible apply Wp.obind); (with_reducible exact avInt_int _ _)) | ((with_reducible apply Wp.ld0 Mx); rfl) | (with_reducible refine Wp.lett ?_) | ((with_reducible refine Wp.iff ?_ ?_); ((with_reducible apply decide_eq_false); omega)))
  exact hok rows p v T H rfl g Mx
 | fu + 1, f + 1, p, rows, v, T, H, hf, hrp, hp, g, Mx, hok, hbad, hfu => by
  rw [lex_Lex_L0_s]
  unfold lex_Lex_L0b
  have lu := lenS_nat u
  by_cases hl : p < u.length
  ·have hst : lexQ u (fu + 1) p rows = match lineQ u p rows with
    | .ok l' q => lexQ u fu q l'
    | .bad e q => .bad e q := by rw [lexQ, if_pos hl] <;> rfl
   have le := line_w (d := d) g hrp (Mem.self Mx) hu hn (by omega) (by rw [Mx.ex]; exact hxB) (by rw [Mx.ex]; exact hx8) (by rw [Mx.ex]; exact hxT)
   iterate 3 (first | ((with_reducible apply Wp.obind); (with_reducible exact avInt_int _ _)) | ((with_reducible apply Wp.ld0 Mx); rfl) | (with_reducible refine Wp.lett ?_))
   (((with_reducible refine Wp.ift ?_ ?_); ((with_reducible apply decide_eq_true); omega)))
   cases hL : lineQ u p rows with
   | bad e q =>
    rw [hL] at le hst
    dsimp only at le hst
    obtain ⟨hne, h1, e1, M1⟩ := le
    refine Wp.callN e1 ?_
    have M2 := Mx.frame M1
    clear Mx
    have Mx := M2
    simp only [List.nil_append] at Mx
    repeat (first | ((with_reducible apply Wp.obind); (with_reducible exact avInt_int _ _)) | ((with_reducible apply Wp.ld0 Mx); rfl) | ((with_reducible apply Wp.lr0 Mx); rfl) | ((with_reducible apply Wp.sa0 Mx); rfl; rfl; (rfl); intro _ Mz; clear Mx; have Mx := Mz; clear Mz) | ((with_reducible apply Wp.lr1 Mx); rfl) | ((with_reducible apply Wp.sa1 Mx); rfl; rfl; (rfl); intro _ Mz; clear Mx; have Mx := Mz; clear Mz) | ((with_reducible apply Wp.mnew Mx); intro _ Mz; clear Mx; have Mx := Mz; clear Mz) | (with_reducible refine Wp.lett ?_) | ((with_reducible apply Wp.obind); (with_reducible exact avAgg_agg _)) | ((with_reducible refine Wp.ift ?_ ?_); ((with_reducible apply bne_t); omega)) | rw [newP_eq])
    exact Wp.ret (hbad e q _ hst hne (Mem.drop (xs := [_, _]) Mx))
   | ok l q =>
    rw [hL] at le hst
    dsimp only at le hst
    obtain ⟨h1, e1, v', T', g', M1⟩ := le
    refine Wp.callN e1 ?_
    have M2 := Mx.frame M1
    obtain ⟨a1, a2, a3, a4⟩ := lineQ_fact hL (by omega)
    clear Mx
    have Mx := M2
    repeat (first | ((with_reducible apply Wp.obind); (with_reducible exact avInt_int _ _)) | ((with_reducible apply Wp.ld0 Mx); rfl) | ((with_reducible apply Wp.sa0 Mx); rfl; rfl; (rfl); intro _ Mz; clear Mx; have Mx := Mz; clear Mz) | ((with_reducible apply Wp.mnew Mx); intro _ Mz; clear Mx; have Mx := Mz; clear Mz) | (with_reducible refine Wp.lett ?_) | ((with_reducible apply Wp.obind); (with_reducible exact avAgg_agg _)) | ((with_reducible refine Wp.iff ?_ ?_); ((with_reducible apply bne_f); omega)) | rw [newP_eq])
    refine lex_loop hu hn hxB hx8 hxT fu f q l v' T' _ (by omega) (by omega) (by omega) g' Mx.pop ?_ ?_ (by omega)
    ·intro l2 q2 v2 T2 H' hr
     exact hok l2 q2 v2 T2 H' (by rw [hst]; exact hr)
    ·intro e q' H' hr
     exact hbad e q' H' (by rw [hst]; exact hr)
  ·repeat (first | ((with_reducible apply Wp.obind); (with_reducible exact avInt_int _ _)) | ((with_reducible apply Wp.ld0 Mx); rfl) | (with_reducible refine Wp.lett ?_) | ((with_reducible refine Wp.iff ?_ ?_); ((with_reducible apply decide_eq_false); omega)))
   exact hok rows p v T H (by rw [lexQ, if_neg hl]) g Mx
set_option maxRecDepth 100000 in
theorem lex_w (hu : u.length ≤ 1000000) (hn : u.length + 20 < n) (hxB : memB TBld h.ex = true) (hx8 : memB TU8 h.ex = false) (hxT : memB TTok h.ex = false) : match lexAll u with
  | .ok l _ => ∃ h' v T, world n (d + 14) 9 [strA u] h = some (.ret (.tup [v, .agg [.int .i64 0, .int .i64 0]]), h') ∧ GrowT TTok 4 l v T ∧ Mem [] h h' T
  | .bad e q => e ≠ 0 ∧ ∃ h', world n (d + 14) 9 [strA u] h = some (.ret (.tup [.nsl, .agg [.int .i64 e, .int .i64 (q : Int)]]), h') ∧ Mem [] h h' [] := by
 suffices hK : Wp (world n (d + 14) 9 [strA u] h) fun r h' => match lexAll u with
   | .ok l _ => ∃ v T, r = .ret (.tup [v, .agg [.int .i64 0, .int .i64 0]]) ∧ GrowT TTok 4 l v T ∧ Mem [] h h' T
   | .bad e q => e ≠ 0 ∧ r = .ret (.tup [.nsl, .agg [.int .i64 e, .int .i64 (q : Int)]]) ∧ Mem [] h h' [] by
  obtain ⟨r, h', e, q⟩ := hK
  cases hl : lexAll u with
  | ok l q' =>
   rw [hl] at q
   obtain ⟨v, T, rfl, q2⟩ := q
   exact ⟨h', v, T, e, q2⟩
  | bad e' q' =>
   rw [hl] at q
   exact ⟨q.1, h', by rw [e, q.2.1], q.2.2⟩
 rw [w_lex_Lex]
 refine Wp.gc2 ?_
 suffices hK : Wp (lex_Lex (world n (d + 13)) n u h) fun r h' => match lexAll u with
   | .ok l _ => ∃ v T, r = .ret (.tup [v, .agg [.int .i64 0, .int .i64 0]]) ∧ GrowT TTok 4 l v T ∧ Mem [] h h' T
   | .bad e q => e ≠ 0 ∧ r = .ret (.tup [.nsl, .agg [.int .i64 e, .int .i64 (q : Int)]]) ∧ Mem [] h h' [] by
  refine hK.mono fun r h' q => ⟨q, fun _ hlo => ?_⟩
  cases hl : lexAll u with
  | ok l q' =>
   rw [hl] at q
   obtain ⟨v, T, rfl, g, M⟩ := q
   rcases g.2 with ⟨h1, h2, rfl⟩ | ⟨h1, c, rfl, rfl⟩
   ·exact ⟨v, [], rfl, g, Mem.nil [] h⟩
   ·have := (M.row _ (List.mem_singleton.2 rfl)).2.2
    exfalso
    rcases this with hh | hh
    ·cases hh
    ·exact absurd (blt_lt' (by simpa [ARes.val, AV.lo, AV.loL] using hlo)) (Nat.not_lt.2 hh)
  | bad e' q' =>
   rw [hl] at q
   exact ⟨q.1, q.2.1, Mem.nil [] h⟩
 unfold lex_Lex
 have Mx := Mem.nil [] h
 have lu := lenS_nat u
 by_cases hl : 2048 < u.length
 ·have hla : lexAll u = .bad 3 2048 := by unfold lexAll; rw [if_pos hl]
  rw [hla]
  repeat (first | ((with_reducible apply Wp.lr0 Mx); rfl) | ((with_reducible apply Wp.sa0 Mx); rfl; rfl; (rfl); intro _ Mz; clear Mx; have Mx := Mz; clear Mz) | ((with_reducible apply Wp.mnew Mx); intro _ Mz; clear Mx; have Mx := Mz; clear Mz) | (with_reducible refine Wp.lett ?_) | ((with_reducible refine Wp.ift ?_ ?_); ((with_reducible apply decide_eq_true); omega)) | rw [newP_eq])
  exact Wp.ret ⟨by decide, rfl, Mx.pop⟩
 ·have hla : lexAll u = lexQ u (u.length + 1) 0 [] := by unfold lexAll; rw [if_neg hl]
  rw [hla]
  repeat (first | ((with_reducible apply Wp.sa0 Mx); rfl; rfl; (rfl); intro _ Mz; clear Mx; have Mx := Mz; clear Mz) | ((with_reducible apply Wp.mnew Mx); intro _ Mz; clear Mx; have Mx := Mz; clear Mz) | (with_reducible refine Wp.join0 (fun _ _ => ?_)) | (with_reducible refine Wp.lett ?_) | ((with_reducible refine Wp.iff ?_ ?_); ((with_reducible apply decide_eq_false); omega)) | rw [newP_eq])
  refine lex_loop hu hn hxB hx8 hxT (u.length + 1) n 0 [] .nsl [] _ (by omega) (by simp) (by omega) (GrowT.nil _ _) Mx ?_ ?_ (by omega)
  ·intro l q v' T' H' hr g' M6
   rw [hr]
   have Mx : Mem [] h _ ([(h.next, TSpot, [.int .i64 0, .int .i64 0])] ++ ((_, TLex, [strA u, .int .i64 (q : Int), v']) :: T')) := M6.perm (List.perm_append_comm (l₁ := [_]) (l₂ := _ :: T'))
   clear M6
   simp only [List.cons_append, List.nil_append] at Mx
   repeat (first | ((with_reducible apply Wp.lr0 Mx); rfl) | ((with_reducible apply Wp.sa0 Mx); rfl; rfl; (rfl); intro _ Mz; clear Mx; have Mx := Mz; clear Mz) | ((with_reducible apply Wp.ld1 Mx); rfl) | (with_reducible refine Wp.go0 (by assumption) ?_) | rw [newP_eq])
   exact Wp.ret ⟨v', T', rfl, g', Mem.drop (xs := [_, _]) Mx⟩
  ·intro e q H' hr he M6
   rw [hr]
   exact ⟨he, rfl, M6⟩
end
end Go.Proofs.Ytjopejiooipmkaa

namespace Go.Proofs.Ytjopejiooipmkaa
open Go.RowKit Abs
inductive RefTo (u : Bytes) : Nat → Bool → List (List AV) → LR → Prop
 | done {p s l} (h : u.length < p) : RefTo u p s l (.ok l 0)
 | nl {p s l r} (h1 : p ≤ u.length) (h2 : endsB u p = true) (k : RefTo u (p + 1) false (if s = true then l ++ [tokC 6 [] 0 p] else l) r) : RefTo u p s l r
 | blank {p s l r} (h1 : p < u.length) (h2 : blankB (u[p]).toNat = true) (k : RefTo u (p + 1) s l r) : RefTo u p s l r
 | remark {p s l r} (h1 : p < u.length) (h2 : (u[p]).toNat = 35) (k : RefTo u (p + spanN restB (u.drop p)) s l r) : RefTo u p s l r
 | tok {p s l r k t m a q} (h1 : p < u.length) (h2 : endsB u p = false) (h3 : blankB (u[p]).toNat = false) (h4 : (u[p]).toNat ≠ 35) (h5 : tokenQ u p = .ok k t m a q) (hk : RefTo u q true (l ++ [tokC k t m a]) r) : RefTo u p s l r
 | bad {p s l e q} (h1 : p < u.length) (h2 : endsB u p = false) (h3 : blankB (u[p]).toNat = false) (h4 : (u[p]).toNat ≠ 35) (h5 : tokenQ u p = .bad e q) : RefTo u p s l (.bad e q)
def LR.norm : LR → LR
 | .ok l _ => .ok l 0
 | .bad e q => .bad e q
section
variable {p q : Nat} {u : Bytes} {s : Bool} {l l' : List (List AV)} {r : LR}
theorem blanks_to : ∀ (k p : Nat), k ≤ spanN blankB (u.drop p) → RefTo u (p + k) s l r → RefTo u p s l r
 | 0, p, _, h => h
 | k + 1, p, hk, h => by
  have hle := span_le blankB (u.drop p)
  rw [List.length_drop] at hle
  have hp : p < u.length := by omega
  have h0 := span_lt (f := blankB) (w := u.drop p) (i := 0) (by omega) (by rw [List.length_drop]; omega)
  rw [List.getElem_drop] at h0
  simp only [Nat.add_zero] at h0
  refine RefTo.blank hp h0 (blanks_to k (p + 1) ?_ (by rw [show p + 1 + k = p + (k + 1) by omega]; exact h))
  have e : spanN blankB (u.drop p) = spanN blankB (u.drop (p + 1)) + 1 := by
   rw [List.drop_eq_getElem_cons hp, spanN, if_pos h0]
  omega
/-- no blank stands here, and no remark -/
def NB (u : Bytes) (p : Nat) : Prop := ∀ h : p < u.length, blankB (u[p]).toNat = false ∧ (u[p]).toNat ≠ 35
theorem skip_to (h : RefTo u (skipP u p) s l r) : RefTo u p s l r := by
 refine blanks_to (spanN blankB (u.drop p)) p (Nat.le_refl _) ?_
 unfold skipP at h
 split at h
 ·rename_i h35
  obtain ⟨h1, h2⟩ := at?_some h35
  exact RefTo.remark h1 h2 h
 ·exact h
theorem skip_nb : NB u (skipP u p) := by
 intro h
 have h1 := span_le blankB (u.drop p)
 rw [List.length_drop] at h1
 by_cases h35 : at? u (p + spanN blankB (u.drop p)) = some 35
 ·have e : skipP u p = p + spanN blankB (u.drop p) + spanN restB (u.drop (p + spanN blankB (u.drop p))) := by unfold skipP; rw [if_pos h35]
  have hh : p + spanN blankB (u.drop p) + spanN restB (u.drop (p + spanN blankB (u.drop p))) < u.length := by omega
  have h2 := span_stop (f := restB) (w := u.drop (p + spanN blankB (u.drop p))) rfl (by rw [List.length_drop]; omega)
  rw [List.getElem_drop] at h2
  have h3 : (u[skipP u p]).toNat = 10 := Decidable.byContradiction fun hh => by
   simp only [e] at hh
   unfold restB at h2
   refine absurd h2 ?_
   rw [bne_t]
   ·decide
   ·intro h4
    exact hh (by exact_mod_cast h4)
  rw [h3]
  decide
 ·have e : skipP u p = p + spanN blankB (u.drop p) := by unfold skipP; rw [if_neg h35]
  have hh : p + spanN blankB (u.drop p) < u.length := by omega
  have h2 := span_stop (f := blankB) (w := u.drop p) rfl (by rw [List.length_drop]; omega)
  rw [List.getElem_drop] at h2
  rw [at?_lt hh] at h35
  simp only [e]
  exact ⟨h2, by simpa using h35⟩
theorem rest_to : ∀ (f p : Nat) (s : Bool) (l : List (List AV)), u.length + 1 ≤ f + p → p ≤ u.length → NB u p → (match restQ u f p l with
  | .ok l' q => ∀ r, RefTo u q (s || decide (l.length < l'.length)) l' r → RefTo u p s l r
  | .bad e q => RefTo u p s l (.bad e q))
 | 0, p, s, l, hf, hp, hn => by omega
 | f + 1, p, s, l, hf, hp, hn => by
  rw [restQ]
  cases he : endsB u p with
  | true =>
   rw [if_pos rfl]
   intro r h
   simpa using h
  | false =>
   rw [if_neg (by decide)]
   have hlt := endsB_lt he
   obtain ⟨n1, n2⟩ := hn hlt
   cases hT : tokenQ u p with
   | bad e q => exact RefTo.bad hlt he n1 n2 hT
   | ok k t m a q =>
    dsimp only
    have hq := tokenQ_le hlt hT
    have hq2 := tokenQ_lt hlt hT
    have hsk := skipP_le (u := u) hq
    have ih := rest_to f (skipP u q) true (l ++ [tokC k t m a]) (by omega) hsk.1 skip_nb
    cases hR : restQ u f (skipP u q) (l ++ [tokC k t m a]) with
    | bad e q' =>
     rw [hR] at ih
     exact RefTo.tok hlt he n1 n2 hT (skip_to ih)
    | ok l' q' =>
     rw [hR] at ih
     obtain ⟨a1, _⟩ := restQ_grows _ _ _ _ _ hR
     simp only [List.length_append, List.length_cons, List.length_nil] at a1
     intro r h
     rw [decide_eq_true (show l.length < l'.length by omega), Bool.or_true] at h
     exact RefTo.tok hlt he n1 n2 hT (skip_to (ih r (by simpa using h)))
theorem restQ_ends : ∀ (f p : Nat) (l l' : List (List AV)) (q : Nat), restQ u f p l = .ok l' q → endsB u q = true
 | 0, p, l, l', q, hh => by rw [restQ] at hh; cases hh
 | f + 1, p, l, l', q, hh => by
  rw [restQ] at hh
  split at hh
  ·cases hh
   assumption
  ·cases hT : tokenQ u p with
   | bad e q' => rw [hT] at hh; cases hh
   | ok k t m a q' =>
    rw [hT] at hh
    exact restQ_ends f _ _ _ _ hh
theorem line_to (hp : p ≤ u.length) : (match lineQ u p l with
  | .ok l' q => ∀ r, RefTo u q false l' r → RefTo u p false l r
  | .bad e q => RefTo u p false l (.bad e q)) := by
 unfold lineQ
 have hsk := skipP_le (u := u) hp
 have ih := rest_to (u := u) (u.length + 1) (skipP u p) false l (by omega) hsk.1 skip_nb
 cases hR : restQ u (u.length + 1) (skipP u p) l with
 | bad e q =>
  rw [hR] at ih
  exact skip_to ih
 | ok l' q =>
  rw [hR] at ih
  obtain ⟨a1, a2, a3, a4⟩ := restQ_grows _ _ _ _ _ hR
  have hen := restQ_ends _ _ _ _ _ hR
  intro r h
  refine skip_to (ih r (RefTo.nl (a3 hsk.1) hen ?_))
  simpa using h
theorem lex_to : ∀ (f p : Nat) (l : List (List AV)), u.length + 1 ≤ f + p → p ≤ u.length + 1 → RefTo u p false l (lexQ u f p l).norm
 | 0, p, l, hf, hp => RefTo.done (by omega)
 | f + 1, p, l, hf, hp => by
  rw [lexQ]
  by_cases hl : p < u.length
  ·rw [if_pos hl]
   have ih := line_to (u := u) (l := l) (Nat.le_of_lt hl)
   cases hL : lineQ u p l with
   | bad e q =>
    rw [hL] at ih
    exact ih
   | ok l' q =>
    rw [hL] at ih
    obtain ⟨a1, a2, a3, a4⟩ := lineQ_fact hL (by omega)
    exact ih _ (lex_to f q l' (by omega) a2)
  ·rw [if_neg hl]
   by_cases h2 : p = u.length
   ·refine RefTo.nl (by omega) (by unfold endsB; rw [at?_ge (by omega)]) (RefTo.done (by omega))
   ·exact RefTo.done (by omega)
end
end Go.Proofs.Ytjopejiooipmkaa

namespace Go.Proofs.Ytjopejiooipmkaa
open Go.RowKit Abs
section
variable {n d p c b : Nat} {h h0 : AHeap} {u : Bytes} {Q : ARes → AHeap → Prop} {v : AV} {S : List Nat} {ys : List RowT}
end
end Go.Proofs.Ytjopejiooipmkaa

namespace Go.Proofs.Ytjopejiooipmkaa
open Go.RowKit Abs
section
variable {n d : Nat} {h h0 : AHeap} {u : Bytes} {Q : ARes → AHeap → Prop} {S : List Nat}
end
end Go.Proofs.Ytjopejiooipmkaa

namespace Go.Proofs.Ytjopejiooipmkaa
open Go.RowKit Abs
section
variable {n d p c b : Nat} {h h0 : AHeap} {u : Bytes} {Q : ARes → AHeap → Prop} {v : AV} {S : List Nat} {ys : List RowT}
end
end Go.Proofs.Ytjopejiooipmkaa

namespace Go.Proofs.Ytjopejiooipmkaa
open Go.RowKit Abs
section
variable {n d p c b : Nat} {h h0 : AHeap} {u : Bytes} {Q : ARes → AHeap → Prop} {v : AV} {S : List Nat} {ys T : List RowT} {rows : List (List AV)}
end
end Go.Proofs.Ytjopejiooipmkaa

namespace Go.Proofs.Ytjopejiooipmkaa
open Go.RowKit Abs
section
variable {n d p c b : Nat} {h h0 H : AHeap} {u : Bytes} {Q : ARes → AHeap → Prop} {v : AV} {S : List Nat} {ys T : List RowT} {rows : List (List AV)}
/-- a token's cells -/
def isTok (r : List AV) : Prop := ∃ k t m a, r = tokC k t m a
theorem lex_le : ∀ (f p : Nat) (l l' : List (List AV)) (q : Nat), lexQ u f p l = .ok l' q → p ≤ u.length + 1 → l'.length + p ≤ l.length + q ∧ q ≤ u.length + 1
 | 0, p, l, l', q, hh, hp => by
  rw [lexQ] at hh
  cases hh
  omega
 | f + 1, p, l, l', q, hh, hp => by
  rw [lexQ] at hh
  split at hh
  ·rename_i hlt
   cases hL : lineQ u p l with
   | bad e q' => rw [hL] at hh; cases hh
   | ok l2 q2 =>
    rw [hL] at hh
    obtain ⟨a1, a2, a3, a4⟩ := lineQ_fact hL (by omega)
    have := lex_le f _ _ _ _ hh a2
    omega
  ·cases hh
   omega
theorem lexAll_le {l : List (List AV)} {q : Nat} (hh : lexAll u = .ok l q) : l.length ≤ u.length + 1 ∧ u.length ≤ 2048 := by
 unfold lexAll at hh
 split at hh
 ·cases hh
 ·have := lex_le _ _ _ _ _ hh (by omega)
  simp at this
  omega
theorem flatTok : flatB Try.prog TTok [1, 2, 1, 1] = true := by kernel_rfl
theorem eqTok (k m k' m' a a' : Int) (t t' : Bytes) : eqOther Try.prog TTok (.agg [.int .i64 k, strA t, .int .i64 m, .int .i64 a]) (.agg [.int .i64 k', strA t', .int .i64 m', .int .i64 a']) = some ((k == k') && ((t == t') && ((m == m') && ((a == a') && true)))) :=
 eq_flat flatTok (eqL_cons rfl (eqCell_int _ _ _) (eqL_cons rfl (eqCell_str _ _) (eqL_cons rfl (eqCell_int _ _ _) (eqL_cons rfl (eqCell_int _ _ _) rfl))))
theorem eqTok_self {r : List AV} (h : isTok r) : eqOther Try.prog TTok (.agg r) (.agg r) = some true := by
 obtain ⟨k, t, m, a, rfl⟩ := h
 unfold tokC
 rw [eqTok]
 simp
end
end Go.Proofs.Ytjopejiooipmkaa

namespace Go.Proofs.Ytjopejiooipmkaa
open Go.RowKit Abs
section
variable {a r w : Bytes} {p q : Nat} {f : Nat → Bool}
theorem at?_beg (hp : p < a.length) : at? (a ++ 10 :: r) p = at? a p := by
 rw [at?_lt hp, at?_lt (by rw [List.length_append]; omega), List.getElem_append_left hp]
theorem at?_brk : at? (a ++ 10 :: r) a.length = some 10 := by
 rw [at?_lt (by simp)]
 simp
theorem at?_ne {c : Nat} (hc : c ≠ 10) (hp : p ≤ a.length) : (at? (a ++ 10 :: r) p = some c) = (at? a p = some c) := by
 by_cases h : p < a.length
 ·rw [at?_beg h]
 ·have e : p = a.length := by omega
  subst e
  rw [at?_brk, at?_ge (Nat.le_refl _)]
  simp
  omega
theorem span_app (hf : f 10 = false) : ∀ w : Bytes, spanN f (w ++ 10 :: r) = spanN f w
 | [] => by
  show spanN f (10 :: r) = 0
  unfold spanN
  rw [if_neg (by rw [show (10 : UInt8).toNat = 10 from rfl, hf]; decide)]
 | x :: w => by
  show spanN f (x :: (w ++ 10 :: r)) = spanN f (x :: w)
  unfold spanN
  rw [span_app hf w]
theorem drop_beg (hp : p ≤ a.length) : (a ++ 10 :: r).drop p = a.drop p ++ 10 :: r := List.drop_append_of_le_length hp
theorem span_beg (hf : f 10 = false) (hp : p ≤ a.length) : spanN f ((a ++ 10 :: r).drop p) = spanN f (a.drop p) := by
 rw [drop_beg hp, span_app hf]
theorem ends_beg (hp : p ≤ a.length) : endsB (a ++ 10 :: r) p = endsB a p := by
 unfold endsB
 by_cases h : p < a.length
 ·rw [at?_beg h]
 ·have e : p = a.length := by omega
  subst e
  rw [at?_brk, at?_ge (Nat.le_refl _)]
  rfl
theorem hexAt_beg (hp : p ≤ a.length) : hexAt (a ++ 10 :: r) p = hexAt a p := by
 unfold hexAt
 by_cases h : p < a.length
 ·rw [at?_beg h]
  cases h1 : (at? a p).bind hexV with
  | none => rfl
  | some hi =>
   dsimp only
   split
   ·rfl
   ·by_cases h2 : p + 1 < a.length
    ·rw [at?_beg h2]
    ·have e : p + 1 = a.length := by omega
     rw [e, at?_brk, at?_ge (Nat.le_refl _)]
     rfl
 ·have e : p = a.length := by omega
  subst e
  rw [at?_brk, at?_ge (Nat.le_refl _)]
  rfl
theorem escAt_beg (hp : p ≤ a.length) : escAt (a ++ 10 :: r) p = escAt a p := by
 unfold escAt
 by_cases h : p < a.length
 ·rw [at?_beg h, hexAt_beg (by omega)]
 ·have e : p = a.length := by omega
  subst e
  rw [at?_brk, at?_ge (Nat.le_refl _)]
  rfl
theorem formAt_beg (hp : p ≤ a.length) : formAt (a ++ 10 :: r) p = formAt a p := by
 unfold formAt
 by_cases h : p < a.length
 ·rw [at?_beg h, escAt_beg (by omega)]
 ·have e : p = a.length := by omega
  subst e
  rw [at?_brk, at?_ge (Nat.le_refl _)]
  rfl
theorem scan_beg {m : Int} : ∀ (f1 f2 p : Nat) (acc : Bytes), a.length + 1 ≤ f1 + p → a.length + 1 ≤ f2 + p → p ≤ a.length → scanQ (a ++ 10 :: r) m f1 p acc = scanQ a m f2 p acc
 | 0, _, p, acc, h1, h2, hp => by omega
 | _ + 1, 0, p, acc, h1, h2, hp => by omega
 | f1 + 1, f2 + 1, p, acc, h1, h2, hp => by
  rw [scanQ, scanQ, formAt_beg hp]
  simp only [at?_ne (show (34 : Nat) ≠ 10 by decide) hp]
  split
  ·rfl
  ·split
   ·rfl
   ·cases hF : formAt a p with
    | bad q => rfl
    | ok c q =>
     have := formAt_ok hF
     exact scan_beg f1 f2 q _ (by omega) (by omega) (by omega)
theorem quoted_beg {m : Int} (hw : w ≠ []) : quotedQ (w ++ 10 :: r) m = quotedQ w m := by
 have hl : 0 < w.length := List.length_pos_iff.2 hw
 unfold quotedQ
 rw [at?_beg hl]
 split
 ·exact scan_beg _ _ _ _ (by simp; omega) (by omega) (by omega)
 ·rfl
theorem wordB10 : wordB 10 = false := by decide
theorem digB10 : digB 10 = false := by decide
theorem restB10 : restB 10 = false := by decide
theorem readQ_beg (hp : p < a.length) : readQ (a ++ 10 :: r) p = readQ a p := by
 have hle := span_le wordB (a.drop p)
 have hle2 := span_le digB (a.drop p)
 rw [List.length_drop] at hle hle2
 have hx : ∀ k, k ≤ a.length - p → ((a ++ 10 :: r).drop p).take k = (a.drop p).take k := by
  intro k hk
  rw [drop_beg (Nat.le_of_lt hp), List.take_append_of_le_length (by rw [List.length_drop]; exact hk)]
 unfold readQ
 rw [at?_beg hp]
 cases h : at? a p with
 | none => rfl
 | some c =>
  dsimp only
  have e1 : readWordQ (a ++ 10 :: r) p = readWordQ a p := by
   unfold readWordQ
   rw [span_beg wordB10 (Nat.le_of_lt hp), hx _ hle]
   simp only [at?_ne (show (58 : Nat) ≠ 10 by decide) (show p + spanN wordB (a.drop p) ≤ a.length by omega)]
  have e2 : readNumQ (a ++ 10 :: r) p = readNumQ a p := by
   unfold readNumQ
   rw [span_beg digB10 (Nat.le_of_lt hp), hx _ hle2, at?_beg hp]
  have e3 : readTextQ (a ++ 10 :: r) p = readTextQ a p := by
   unfold readTextQ
   rw [drop_beg (Nat.le_of_lt hp), quoted_beg (by intro hh; have := congrArg List.length hh; rw [List.length_drop] at this; simp at this; omega)]
  rw [e1, e2, e3, hx 1 (by omega)]
theorem tokenQ_beg (hp : p < a.length) : tokenQ (a ++ 10 :: r) p = tokenQ a p := by
 unfold tokenQ
 rw [readQ_beg hp]
 cases hR : readQ a p with
 | bad e q => rfl
 | ok k t m a' q =>
  dsimp only
  have hq := (readQ_le hp hR).1
  rw [ends_beg hq]
  by_cases h : q < a.length
  ·rw [at?_beg h]
  ·have e : q = a.length := by omega
   subst e
   have : endsB a a.length = true := by unfold endsB; rw [at?_ge (Nat.le_refl _)]
   rw [if_pos (.inl this), if_pos (.inl this)]
def BegP (a r : Bytes) (p : Nat) (s : Bool) (l : List (List AV)) : LR → Prop
 | .ok l' _ => ∀ R, RefTo (a ++ 10 :: r) (a.length + 1) false l' R → RefTo (a ++ 10 :: r) p s l R
 | .bad e q => RefTo (a ++ 10 :: r) p s l (.bad e q)
theorem beg_to {s : Bool} {l : List (List AV)} {x : LR} (h : RefTo a p s l x) : p ≤ a.length + 1 → (p = a.length + 1 → s = false) → BegP a r p s l x := by
 have hl : (a ++ 10 :: r).length = a.length + 1 + r.length := by simp; omega
 induction h with
 | @done p s l h =>
  intro hp hs R hR
  have e : p = a.length + 1 := by omega
  rw [hs e, e]
  exact hR
 | @nl p s l x h1 h2 _ ih =>
  intro hp hs
  have ih := ih (by omega) (fun _ => rfl)
  have h2' : endsB (a ++ 10 :: r) p = true := by rw [ends_beg h1]; exact h2
  cases x with
  | ok l' q => exact fun R hR => RefTo.nl (by omega) h2' (ih R hR)
  | bad e q => exact RefTo.nl (by omega) h2' ih
 | @blank p s l x h1 h2 _ ih =>
  intro hp hs
  have ih := ih (by omega) (fun e => by omega)
  have h2' : blankB ((a ++ 10 :: r)[p]'(by omega)).toNat = true := by rw [List.getElem_append_left h1]; exact h2
  cases x with
  | ok l' q => exact fun R hR => RefTo.blank (by omega) h2' (ih R hR)
  | bad e q => exact RefTo.blank (by omega) h2' ih
 | @remark p s l x h1 h2 _ ih =>
  intro hp hs
  have hle := span_le restB (a.drop p)
  rw [List.length_drop] at hle
  have ih := ih (by omega) (fun e => by omega)
  have h2' : ((a ++ 10 :: r)[p]'(by omega)).toNat = 35 := by rw [List.getElem_append_left h1]; exact h2
  rw [← span_beg (r := r) restB10 (Nat.le_of_lt h1)] at ih
  cases x with
  | ok l' q => exact fun R hR => RefTo.remark (by omega) h2' (ih R hR)
  | bad e q => exact RefTo.remark (by omega) h2' ih
 | @tok p s l x k t m a' q h1 h2 h3 h4 h5 _ ih =>
  intro hp hs
  have hq := tokenQ_le h1 h5
  have ih := ih (by omega) (fun e => by omega)
  have h2' : endsB (a ++ 10 :: r) p = false := by rw [ends_beg (Nat.le_of_lt h1)]; exact h2
  have h3' : blankB ((a ++ 10 :: r)[p]'(by omega)).toNat = false := by rw [List.getElem_append_left h1]; exact h3
  have h4' : ((a ++ 10 :: r)[p]'(by omega)).toNat ≠ 35 := by rw [List.getElem_append_left h1]; exact h4
  have h5' : tokenQ (a ++ 10 :: r) p = .ok k t m a' q := by rw [tokenQ_beg h1]; exact h5
  cases x with
  | ok l' q => exact fun R hR => RefTo.tok (by omega) h2' h3' h4' h5' (ih R hR)
  | bad e q => exact RefTo.tok (by omega) h2' h3' h4' h5' ih
 | @bad p s l e q h1 h2 h3 h4 h5 =>
  intro hp hs
  have h2' : endsB (a ++ 10 :: r) p = false := by rw [ends_beg (Nat.le_of_lt h1)]; exact h2
  have h3' : blankB ((a ++ 10 :: r)[p]'(by omega)).toNat = false := by rw [List.getElem_append_left h1]; exact h3
  have h4' : ((a ++ 10 :: r)[p]'(by omega)).toNat ≠ 35 := by rw [List.getElem_append_left h1]; exact h4
  exact RefTo.bad (by omega) h2' h3' h4' (by rw [tokenQ_beg h1]; exact h5)
end
def shR (k : Nat) : List AV → List AV
 | [a, b, c, .int .i64 x] => [a, b, c, .int .i64 (x + (k : Int))]
 | r => r
theorem shR_tok (k : Nat) (kk : Int) (t : Bytes) (m : Int) (p : Nat) : shR k (tokC kk t m p) = tokC kk t m (k + p) := by
 unfold tokC shR
 rw [show ((k + p : Nat) : Int) = (p : Int) + (k : Int) by omega]
def TR.sh (k : Nat) : TR → TR
 | .ok kk t m a q => .ok kk t m (k + a) (k + q)
 | .bad e q => .bad e (k + q)
section
variable {pre b : Bytes} {p q : Nat} {f : Nat → Bool}
theorem at?_end : at? (pre ++ b) (pre.length + p) = at? b p := by
 unfold at?
 rw [List.getElem?_append_right (by omega), Nat.add_sub_cancel_left]
theorem drop_end : (pre ++ b).drop (pre.length + p) = b.drop p := by
 rw [List.drop_append]
 simp
theorem ends_end : endsB (pre ++ b) (pre.length + p) = endsB b p := by
 unfold endsB
 rw [at?_end]
theorem readQ_end : readQ (pre ++ b) (pre.length + p) = (readQ b p).sh pre.length := by
 unfold readQ
 rw [at?_end]
 cases h : at? b p with
 | none => rfl
 | some c =>
  dsimp only
  have e1 : readWordQ (pre ++ b) (pre.length + p) = (readWordQ b p).sh pre.length := by
   unfold readWordQ
   rw [drop_end, Nat.add_assoc, at?_end]
   split
   ·split
    ·rfl
    ·rfl
   ·show TR.bad 3 _ = TR.bad 3 _
    rw [Nat.add_assoc]
  have e2 : readNumQ (pre ++ b) (pre.length + p) = (readNumQ b p).sh pre.length := by
   unfold readNumQ
   rw [drop_end, at?_end]
   split
   ·rfl
   ·split
    ·show TR.ok _ _ _ _ _ = TR.ok _ _ _ _ _
     rw [Nat.add_assoc]
    ·show TR.bad 3 _ = TR.bad 3 _
     rw [Nat.add_assoc]
  have e3 : readTextQ (pre ++ b) (pre.length + p) = (readTextQ b p).sh pre.length := by
   unfold readTextQ
   rw [drop_end]
   cases quotedQ (b.drop p) 64 with
   | ok l q =>
    show TR.ok _ _ _ _ _ = TR.ok _ _ _ _ _
    rw [Nat.add_assoc]
   | bad e q =>
    show TR.bad _ _ = TR.bad _ _
    rw [Nat.add_assoc]
  rw [e1, e2, e3, drop_end]
  split
  ·rfl
  ·split
   ·rfl
   ·split
    ·rfl
    ·split
     ·rfl
     ·rfl
theorem tokenQ_end : tokenQ (pre ++ b) (pre.length + p) = (tokenQ b p).sh pre.length := by
 unfold tokenQ
 rw [readQ_end]
 cases hR : readQ b p with
 | bad e q => rfl
 | ok k t m a' q =>
  show (if endsB (pre ++ b) (pre.length + q) = true ∨ _ then _ else _) = _
  rw [ends_end, at?_end]
  dsimp only
  split
  ·rfl
  ·rfl
def LR.sh (l0 : List (List AV)) (k : Nat) : LR → LR
 | .ok l _ => .ok (l0 ++ l.map (shR k)) 0
 | .bad e q => .bad e (k + q)
theorem end_to {s : Bool} {l : List (List AV)} {x : LR} (l0 : List (List AV)) (h : RefTo b p s l x) : RefTo (pre ++ b) (pre.length + p) s (l0 ++ l.map (shR pre.length)) (x.sh l0 pre.length) := by
 have hl : (pre ++ b).length = pre.length + b.length := by simp
 have hg : ∀ p (h : p < b.length), (pre ++ b)[pre.length + p]'(by omega) = b[p] := by
  intro p h
  rw [List.getElem_append_right (by omega)]
  simp
 induction h with
 | @done p s l h => exact RefTo.done (by omega)
 | @nl p s l x h1 h2 _ ih =>
  refine RefTo.nl (by omega) (by rw [ends_end]; exact h2) ?_
  rw [Nat.add_assoc]
  cases s with
  | true =>
   rw [if_pos rfl] at ih ⊢
   rw [List.map_append, List.map_cons, List.map_nil, shR_tok, ← List.append_assoc] at ih
   exact ih
  | false => exact ih
 | @blank p s l x h1 h2 _ ih => exact RefTo.blank (by omega) (by rw [hg p h1]; exact h2) ih
 | @remark p s l x h1 h2 _ ih =>
  refine RefTo.remark (by omega) (by rw [hg p h1]; exact h2) ?_
  rw [drop_end, Nat.add_assoc]
  exact ih
 | @tok p s l x k t m a' q h1 h2 h3 h4 h5 _ ih =>
  refine RefTo.tok (k := k) (t := t) (m := m) (a := pre.length + a') (q := pre.length + q) (by omega) (by rw [ends_end]; exact h2) (by rw [hg p h1]; exact h3) (by rw [hg p h1]; exact h4) (by rw [tokenQ_end, h5]; rfl) ?_
  rw [List.map_append, List.map_cons, List.map_nil, shR_tok, ← List.append_assoc] at ih
  exact ih
 | @bad p s l e q h1 h2 h3 h4 h5 => exact RefTo.bad (by omega) (by rw [ends_end]; exact h2) (by rw [hg p h1]; exact h3) (by rw [hg p h1]; exact h4) (by rw [tokenQ_end, h5]; rfl)
end
section
variable {u : Bytes} {p : Nat} {s : Bool} {l : List (List AV)} {x y : LR}
theorem ends_some (h : p < u.length) (he : endsB u p = true) : (u[p]).toNat = 10 := by
 unfold endsB at he
 rw [at?_lt h] at he
 dsimp only at he
 have : ((u[p]).toNat : Int) = 10 := by simpa using he
 exact_mod_cast this
theorem ref_one (h : RefTo u p s l x) : RefTo u p s l y → x = y := by
 induction h with
 | @done p s l h =>
  intro k
  cases k with
  | done => rfl
  | nl => omega
  | blank => omega
  | remark => omega
  | tok => omega
  | bad => omega
 | @nl p s l x h1 h2 _ ih =>
  intro k
  cases k with
  | done => omega
  | nl _ _ k => exact ih k
  | blank h3 h4 k => rw [ends_some h3 h2] at h4; cases h4
  | remark h3 h4 k => rw [ends_some h3 h2] at h4; cases h4
  | tok h3 h4 => rw [h2] at h4; cases h4
  | bad h3 h4 => rw [h2] at h4; cases h4
 | @blank p s l x h1 h2 _ ih =>
  intro k
  cases k with
  | done => omega
  | nl h3 h4 k => rw [ends_some h1 h4] at h2; cases h2
  | blank h3 h4 k => exact ih k
  | remark h3 h4 k => rw [h4] at h2; cases h2
  | tok h3 h4 h5 => rw [h2] at h5; cases h5
  | bad h3 h4 h5 => rw [h2] at h5; cases h5
 | @remark p s l x h1 h2 _ ih =>
  intro k
  cases k with
  | done => omega
  | nl h3 h4 k => rw [ends_some h1 h4] at h2; cases h2
  | blank h3 h4 k => rw [h2] at h4; cases h4
  | remark h3 h4 k => exact ih k
  | tok h3 h4 h5 h6 => exact absurd h2 h6
  | bad h3 h4 h5 h6 => exact absurd h2 h6
 | @tok p s l x k t m a' q h1 h2 h3 h4 h5 _ ih =>
  intro k
  cases k with
  | done => omega
  | nl g3 g4 k => rw [h2] at g4; cases g4
  | blank g3 g4 k => rw [h3] at g4; cases g4
  | remark g3 g4 k => exact absurd g4 h4
  | tok g3 g4 g5 g6 g7 k =>
   rw [h5] at g7
   cases g7
   exact ih k
  | bad g3 g4 g5 g6 g7 => rw [h5] at g7; cases g7
 | @bad p s l e q h1 h2 h3 h4 h5 =>
  intro k
  cases k with
  | nl g3 g4 k => rw [h2] at g4; cases g4
  | blank g3 g4 k => rw [h3] at g4; cases g4
  | remark g3 g4 k => exact absurd g4 h4
  | tok g3 g4 g5 g6 g7 k => rw [h5] at g7; cases g7
  | bad g3 g4 g5 g6 g7 =>
   rw [h5] at g7
   cases g7
   rfl
  | done => omega
theorem lexAll_to (hu : u.length ≤ 2048) : RefTo u 0 false [] (lexAll u).norm := by
 unfold lexAll
 rw [if_neg (by omega)]
 exact lex_to _ _ _ (by omega) (by omega)
/-- of two texts with a line's end between them -/
theorem lex_lines {a b : Bytes} (hl : a.length + 1 + b.length ≤ 2048) : (lexAll (a ++ 10 :: b)).norm = match lexAll a with
  | .bad e q => .bad e q
  | .ok l _ => (lexAll b).norm.sh l (a.length + 1) := by
 have hu : (a ++ 10 :: b).length ≤ 2048 := by simp; omega
 have h1 := lexAll_to hu
 have h2 := beg_to (r := b) (lexAll_to (u := a) (by omega)) (by omega) (by omega)
 cases hA : lexAll a with
 | bad e q =>
  rw [hA] at h2
  exact ref_one h1 h2
 | ok l q =>
  rw [hA] at h2
  have h3 := end_to (pre := a ++ [10]) l (lexAll_to (u := b) (by omega))
  simp only [List.append_assoc, List.cons_append, List.nil_append, List.length_append, List.length_cons, List.length_nil, Nat.add_zero, List.map_nil, List.append_nil, Nat.zero_add] at h3
  exact ref_one h1 (h2 _ h3)
end
end Go.Proofs.Ytjopejiooipmkaa

namespace Go.Proofs.Ytjopejiooipmkaa
open Go.RowKit Abs

noncomputable def law12_LexLines_L0b (t0 : Bytes) (v25 : AV) (v30 : AV) (v38 : AV) (k107 : AHeap → R) (self : Int → AHeap → R) (t11 : Int) (h_111 : AHeap) : R :=
 obind (lenL v38) fun t97 =>
 lett (decide (t11 < t97)) fun (t98 : Bool) =>
 ifB t98
 (
  lett (newH h_111 31 [.int .i64 0, .str 0 0, .int .i64 0, .int .i64 0]) fun h_119 =>
  obind (stRow h_119 4 ([.int .i64 0, .str 0 0, .int .i64 0, .int .i64 0] : List AV) (newP h_111)) fun h_121 =>
  obind (lenL v25) fun t104 =>
  lett (decide (t11 < t104)) fun (t105 : Bool) =>
  lett (fun  (h_128 : AHeap) =>
   obind (idxP 4 v38 t11) fun t126 =>
   obind (ldRow h_128 4 t126) fun t127 =>
   obind (ldRow h_128 4 (newP h_111)) fun t128 =>
   obind (eqOther Try.prog 31 (.agg t127) (.agg t128)) fun t129 =>
   lett (!t129) fun (t129_134 : Bool) =>
   ifB t129_134
   (
    some (.ret (.bool false), h_128))
   (
    lett (IntKind.i64.wrap (t11 + 1)) fun (t100 : Int) =>
    self t100 h_128)) fun k127 =>
  ifB t105
  (
   obind (idxP 4 v25 t11) fun t108 =>
   obind (ldRow h_121 4 t108) fun t109 =>
   obind (stRow h_121 4 t109 (newP h_111)) fun h_140 =>
   k127 h_140)
  (
   obind (lenL v25) fun t113 =>
   lett (IntKind.i64.wrap (t11 - t113)) fun (t114 : Int) =>
   obind (idxP 4 v30 t114) fun t115 =>
   obind (ldRow h_121 4 t115) fun t116 =>
   obind (stRow h_121 4 t116 (newP h_111)) fun h_147 =>
   obind (ldCell h_147 (AV.ptr (AHeap.next h_111) 3)) fun v118 =>
   obind (avInt .i64 v118) fun t118 =>
   lett (IntKind.i64.wrap ((lenS t0) + 1)) fun (t121 : Int) =>
   lett (IntKind.i64.wrap (t118 + t121)) fun (t122 : Int) =>
   obind (stRow h_147 1 [.int .i64 t122] (AV.ptr (AHeap.next h_111) 3)) fun h_153 =>
   k127 h_153))
 (
  k107 h_111)
noncomputable def law12_LexLines_L0 (t0 : Bytes) (v25 : AV) (v30 : AV) (v38 : AV) (k107 : AHeap → R) : Nat → Int → AHeap → R := iterR (fun _ _ => none) (law12_LexLines_L0b t0 v25 v30 v38 k107)
theorem law12_LexLines_L0_s (t0 : Bytes) (v25 : AV) (v30 : AV) (v38 : AV) (k107 : AHeap → R) (m : Nat) : law12_LexLines_L0 t0 v25 v30 v38 k107 (m + 1) = law12_LexLines_L0b t0 v25 v30 v38 k107 (law12_LexLines_L0 t0 v25 v30 v38 k107 m) := rfl
noncomputable def law12_LexLines (call : CallF) (n : Nat) (t0 : Bytes) (t1 : Bytes) (h : AHeap) : R :=
 callN (call 7 [] h) fun r13 h_4 =>
 obind (avBool r13) fun t13 =>
 lett (!t13) fun (t14 : Bool) =>
 ifB t14
 (
  some (.ret (.bool false), h_4))
 (
  lett (IntKind.i64.wrap ((lenS t0) + 1)) fun (t17 : Int) =>
  lett (IntKind.i64.wrap (t17 + (lenS t1))) fun (t20 : Int) =>
  lett (decide (t20 > 2048)) fun (t21 : Bool) =>
  ifB t21
  (
   some (.ret (.bool true), h_4))
  (
   callN (call 9 [strA t0] h_4) fun r24 h_16 =>
   obind (extT 0 r24) fun v25 =>
   obind (extT 1 r24) fun v26 =>
   obind (avAgg v26) fun t26 =>
   lett (newH h_16 27 [.int .i64 0, .int .i64 0]) fun h_21 =>
   obind (stRow h_21 2 t26 (newP h_16)) fun h_23 =>
   callN (call 9 [strA t1] h_23) fun r29 h_26 =>
   obind (extT 0 r29) fun v30 =>
   obind (extT 1 r29) fun v31 =>
   obind (avAgg v31) fun t31 =>
   lett (newH h_26 27 [.int .i64 0, .int .i64 0]) fun h_31 =>
   obind (stRow h_31 2 t31 (newP h_26)) fun h_33 =>
   obind (addS t0 ([10] : Bytes)) fun t34 =>
   obind (addS t34 t1) fun t36 =>
   callN (call 9 [strA t36] h_33) fun r37 h_38 =>
   obind (extT 0 r37) fun v38 =>
   obind (extT 1 r37) fun v39 =>
   obind (avAgg v39) fun t39 =>
   lett (newH h_38 27 [.int .i64 0, .int .i64 0]) fun h_43 =>
   obind (stRow h_43 2 t39 (newP h_38)) fun h_45 =>
   obind (ldCell h_45 (AV.ptr (AHeap.next h_16) 0)) fun v41 =>
   obind (avInt .i64 v41) fun t41 =>
   lett ((t41 : Int) != 0) fun (t42 : Bool) =>
   ifB t42
   (
    obind (ldCell h_45 (AV.ptr (AHeap.next h_38) 0)) fun v44 =>
    obind (avInt .i64 v44) fun t44 =>
    lett ((t44 : Int) != 0) fun (t45 : Bool) =>
    lett (fun (t52 : Bool) (h_56 : AHeap) =>
     lett (fun (t57 : Bool) (h_59 : AHeap) =>
      some (.ret (.bool t57), h_59)) fun j57 =>
     ifB t52
     (
      obind (lenL v38) fun t55 =>
      lett ((t55 : Int) == 0) fun (t56 : Bool) =>
      j57 t56 h_56)
     (
      j57 false h_56)) fun j52 =>
    ifB t45
    (
     obind (ldCell h_45 (AV.ptr (AHeap.next h_38) 1)) fun v48 =>
     obind (avInt .i64 v48) fun t48 =>
     obind (ldCell h_45 (AV.ptr (AHeap.next h_16) 1)) fun v50 =>
     obind (avInt .i64 v50) fun t50 =>
     lett ((t48 : Int) == t50) fun (t51 : Bool) =>
     j52 t51 h_45)
    (
     j52 false h_45))
   (
    obind (ldCell h_45 (AV.ptr (AHeap.next h_26) 0)) fun v59 =>
    obind (avInt .i64 v59) fun t59 =>
    lett ((t59 : Int) != 0) fun (t60 : Bool) =>
    ifB t60
    (
     obind (ldCell h_45 (AV.ptr (AHeap.next h_38) 0)) fun v62 =>
     obind (avInt .i64 v62) fun t62 =>
     obind (ldCell h_45 (AV.ptr (AHeap.next h_26) 0)) fun v64 =>
     obind (avInt .i64 v64) fun t64 =>
     lett ((t62 : Int) == t64) fun (t65 : Bool) =>
     lett (fun (t76 : Bool) (h_80 : AHeap) =>
      lett (fun (t81 : Bool) (h_83 : AHeap) =>
       some (.ret (.bool t81), h_83)) fun j81 =>
      ifB t76
      (
       obind (lenL v38) fun t79 =>
       lett ((t79 : Int) == 0) fun (t80 : Bool) =>
       j81 t80 h_80)
      (
       j81 false h_80)) fun j76 =>
     ifB t65
     (
      obind (ldCell h_45 (AV.ptr (AHeap.next h_38) 1)) fun v68 =>
      obind (avInt .i64 v68) fun t68 =>
      lett (IntKind.i64.wrap ((lenS t0) + 1)) fun (t71 : Int) =>
      obind (ldCell h_45 (AV.ptr (AHeap.next h_26) 1)) fun v73 =>
      obind (avInt .i64 v73) fun t73 =>
      lett (IntKind.i64.wrap (t71 + t73)) fun (t74 : Int) =>
      lett ((t68 : Int) == t74) fun (t75 : Bool) =>
      j76 t75 h_45)
     (
      j76 false h_45))
    (
     obind (ldCell h_45 (AV.ptr (AHeap.next h_38) 0)) fun v83 =>
     obind (avInt .i64 v83) fun t83 =>
     lett ((t83 : Int) != 0) fun (t84 : Bool) =>
     lett (fun (t94 : Bool) (h_100 : AHeap) =>
      ifB t94
      (
       some (.ret (.bool false), h_100))
      (
       lett (fun  (h_108 : AHeap) =>
        some (.ret (.bool true), h_108)) fun k107 =>
       law12_LexLines_L0 t0 v25 v30 v38 k107 n 0 h_100)) fun j94 =>
     ifB t84
     (
      j94 true h_45)
     (
      obind (lenL v38) fun t87 =>
      obind (lenL v25) fun t89 =>
      obind (lenL v30) fun t91 =>
      lett (IntKind.i64.wrap (t89 + t91)) fun (t92 : Int) =>
      lett ((t87 : Int) != t92) fun (t93 : Bool) =>
      j94 t93 h_45)))))
set_option maxHeartbeats 4000000 in
set_option maxRecDepth 20000 in
theorem law12_LexLines_ok {call : CallF} (hc : SaysAll Try.prog call) {n : Nat} {t0 : Bytes} {t1 : Bytes} {h : AHeap} {rR : ARes} {hR : AHeap} (hF : law12_LexLines call n t0 t1 h = some (rR, hR)) : Says Try.prog 4 [strA t0, strA t1] h rR hR := by
 unfold law12_LexLines at hF
 refine says_of (fn := Try.f4) Try.func4 (c := codeOf Try.f4) (by kernel_rfl) (by kernel_rfl) (fun w0 m0 => ?_)
 refine W.weaken (l' := [(0, strA t0), (1, strA t1)]) (Fr.c (Fr.c Fr.n)) ?_
 refine W.s (fun K1 n1 e1 q1 p1 => ?_)
 refine W.r ?_
 refine WL.a (some 4) (.bool false) h ?_
 refine WL.n ?_
 refine Go.weaken (l' := [(0, strA t0), (1, strA t1)]) (Fr.c (Fr.c Fr.n)) ?_
 refine n1 ?_
 refine W.s (fun K2 n2 e2 q2 p2 => ?_)
 refine W.s (fun K3 n3 e3 q3 p3 => ?_)
 refine W.r ?_
 replace hF := callN_some hF; obtain ⟨r13, h_4, e5, hF⟩ := hF
 replace hF := obind_some hF; obtain ⟨t13, c6, hF⟩ := hF
 have c6 := avBool_some c6
 subst c6
 refine WL.c (hc.ok w0) (some 13) e5 ?_
 replace hF := lett_some hF; obtain ⟨t14, e7, hF⟩ := hF
 refine WL.val (d := (some 14)) (v := .bool t14) (h' := h_4) (by kernel_rfl) (by kernel_rfl) (val_of AV.bool e7 (by kernel_rfl)) ?_
 refine WL.n ?_
 refine Go.weaken (l' := [(0, strA t0), (1, strA t1), (14, .bool t14)]) (Fr.c (Fr.c (Fr.c Fr.n))) ?_
 refine n3 ?_
 cases t14 with
 | true =>
  replace hF := ifB_t hF
  refine W.t ?_
  refine W.s (fun K8 n8 e8 q8 p8 => ?_)
  refine W.r ?_
  refine WL.a (some 4) (.bool false) h_4 ?_
  refine WL.n ?_
  refine Go.weaken (l' := [(4, .bool false)]) (Fr.c Fr.n) ?_
  refine n8 ?_
  refine W.ret (by kernel_rfl) ?_
  refine q2 ?_
  obtain ⟨hF, hF2⟩ := ret_inj hF; subst hF; subst hF2
  exact leave_of (rs := [.tmp 4]) (vs := [.bool false]) (by kernel_rfl) (res_tmp (by kernel_rfl) res_nil) (by kernel_rfl)
 | false =>
  replace hF := ifB_f hF
  refine W.f ?_
  refine W.skip (by kernel_rfl) ?_
  refine n2 ?_
  refine W.s (fun K9 n9 e9 q9 p9 => ?_)
  refine W.s (fun K10 n10 e10 q10 p10 => ?_)
  refine W.r ?_
  refine WL.a (some 15) (strA t0) h_4 ?_
  refine WL.a (some 16) (.int .i64 (lenS t0)) h_4 ?_
  replace hF := lett_some hF; obtain ⟨t17, e11, hF⟩ := hF
  refine WL.val (d := (some 17)) (v := .int .i64 t17) (h' := h_4) (by kernel_rfl) (by kernel_rfl) (val_of (AV.int .i64) e11 (by kernel_rfl)) ?_
  refine WL.a (some 18) (strA t1) h_4 ?_
  refine WL.a (some 19) (.int .i64 (lenS t1)) h_4 ?_
  replace hF := lett_some hF; obtain ⟨t20, e12, hF⟩ := hF
  refine WL.val (d := (some 20)) (v := .int .i64 t20) (h' := h_4) (by kernel_rfl) (by kernel_rfl) (val_of (AV.int .i64) e12 (by kernel_rfl)) ?_
  replace hF := lett_some hF; obtain ⟨t21, e13, hF⟩ := hF
  refine WL.val (d := (some 21)) (v := .bool t21) (h' := h_4) (by kernel_rfl) (by kernel_rfl) (val_of AV.bool e13 (by kernel_rfl)) ?_
  refine WL.n ?_
  refine Go.weaken (l' := [(0, strA t0), (1, strA t1), (21, .bool t21)]) (Fr.c (Fr.c (Fr.c Fr.n))) ?_
  refine n10 ?_
  cases t21 with
  | true =>
   replace hF := ifB_t hF
   refine W.t ?_
   refine W.s (fun K14 n14 e14 q14 p14 => ?_)
   refine W.r ?_
   refine WL.a (some 4) (.bool true) h_4 ?_
   refine WL.n ?_
   refine Go.weaken (l' := [(4, .bool true)]) (Fr.c Fr.n) ?_
   refine n14 ?_
   refine W.ret (by kernel_rfl) ?_
   refine q9 ?_
   obtain ⟨hF, hF2⟩ := ret_inj hF; subst hF; subst hF2
   exact leave_of (rs := [.tmp 4]) (vs := [.bool true]) (by kernel_rfl) (res_tmp (by kernel_rfl) res_nil) (by kernel_rfl)
  | false =>
   replace hF := ifB_f hF
   refine W.f ?_
   refine W.skip (by kernel_rfl) ?_
   refine n9 ?_
   refine W.s (fun K15 n15 e15 q15 p15 => ?_)
   refine W.r ?_
   refine WL.a (some 23) (strA t0) h_4 ?_
   replace hF := callN_some hF; obtain ⟨r24, h_16, e17, hF⟩ := hF
   refine WL.c (hc.ok w0) (some 24) e17 ?_
   refine WL.a (some 22) r24 h_16 ?_
   replace hF := obind_some hF; obtain ⟨v25, e18, hF⟩ := hF
   refine WL.b (some 25) v25 h_16 (extract_tup (h := h_16) e18) ?_
   replace hF := obind_some hF; obtain ⟨v26, e19, hF⟩ := hF
   replace hF := obind_some hF; obtain ⟨t26, c20, hF⟩ := hF
   have c20 := avAgg_some c20
   subst c20
   refine WL.b (some 26) (.agg t26) h_16 (extract_tup (h := h_16) e19) ?_
   replace hF := lett_some hF; obtain ⟨h_21, e22, hF⟩ := hF
   refine WL.val (d := (some 6)) (v := (newP h_16)) (h' := h_21) (by kernel_rfl) (by kernel_rfl) (val_ofH e22 (by kernel_rfl)) ?_
   refine WL.a (some 5) v25 h_21 ?_
   replace hF := obind_some hF; obtain ⟨h_23, e24, hF⟩ := hF
   refine WL.e h_23 (store_row (P := Try.prog) (h := h_21) (t := 27) (v := (.agg t26)) (by kernel_rfl) (by kernel_rfl) e24) ?_
   refine WL.n ?_
   refine Go.weaken (l' := [(0, strA t0), (1, strA t1), (5, v25), (6, (newP h_16))]) (Fr.c (Fr.c (Fr.c (Fr.c Fr.n)))) ?_
   refine n15 ?_
   refine W.s (fun K25 n25 e25 q25 p25 => ?_)
   refine W.r ?_
   refine WL.a (some 28) (strA t1) h_23 ?_
   replace hF := callN_some hF; obtain ⟨r29, h_26, e27, hF⟩ := hF
   refine WL.c (hc.ok w0) (some 29) e27 ?_
   refine WL.a (some 27) r29 h_26 ?_
   replace hF := obind_some hF; obtain ⟨v30, e28, hF⟩ := hF
   refine WL.b (some 30) v30 h_26 (extract_tup (h := h_26) e28) ?_
   replace hF := obind_some hF; obtain ⟨v31, e29, hF⟩ := hF
   replace hF := obind_some hF; obtain ⟨t31, c30, hF⟩ := hF
   have c30 := avAgg_some c30
   subst c30
   refine WL.b (some 31) (.agg t31) h_26 (extract_tup (h := h_26) e29) ?_
   replace hF := lett_some hF; obtain ⟨h_31, e32, hF⟩ := hF
   refine WL.val (d := (some 8)) (v := (newP h_26)) (h' := h_31) (by kernel_rfl) (by kernel_rfl) (val_ofH e32 (by kernel_rfl)) ?_
   refine WL.a (some 7) v30 h_31 ?_
   replace hF := obind_some hF; obtain ⟨h_33, e34, hF⟩ := hF
   refine WL.e h_33 (store_row (P := Try.prog) (h := h_31) (t := 27) (v := (.agg t31)) (by kernel_rfl) (by kernel_rfl) e34) ?_
   refine WL.n ?_
   refine Go.weaken (l' := [(0, strA t0), (1, strA t1), (5, v25), (6, (newP h_16)), (7, v30), (8, (newP h_26))]) (Fr.c (Fr.c (Fr.c (Fr.c (Fr.c (Fr.c Fr.n)))))) ?_
   refine n25 ?_
   refine W.s (fun K35 n35 e35 q35 p35 => ?_)
   refine W.r ?_
   refine WL.a (some 33) (strA t0) h_33 ?_
   replace hF := obind_some hF; obtain ⟨t34, e36, hF⟩ := hF
   refine WL.b (some 34) (strA t34) h_33 (add_str (P := Try.prog) (h := h_33) (t := 9) (lit := true) e36) ?_
   refine WL.a (some 35) (strA t1) h_33 ?_
   replace hF := obind_some hF; obtain ⟨t36, e37, hF⟩ := hF
   refine WL.b (some 36) (strA t36) h_33 (add_str (P := Try.prog) (h := h_33) (t := 9) (lit := false) e37) ?_
   replace hF := callN_some hF; obtain ⟨r37, h_38, e39, hF⟩ := hF
   refine WL.c (hc.ok w0) (some 37) e39 ?_
   refine WL.a (some 32) r37 h_38 ?_
   replace hF := obind_some hF; obtain ⟨v38, e40, hF⟩ := hF
   refine WL.b (some 38) v38 h_38 (extract_tup (h := h_38) e40) ?_
   replace hF := obind_some hF; obtain ⟨v39, e41, hF⟩ := hF
   replace hF := obind_some hF; obtain ⟨t39, c42, hF⟩ := hF
   have c42 := avAgg_some c42
   subst c42
   refine WL.b (some 39) (.agg t39) h_38 (extract_tup (h := h_38) e41) ?_
   replace hF := lett_some hF; obtain ⟨h_43, e44, hF⟩ := hF
   refine WL.val (d := (some 10)) (v := (newP h_38)) (h' := h_43) (by kernel_rfl) (by kernel_rfl) (val_ofH e44 (by kernel_rfl)) ?_
   refine WL.a (some 9) v38 h_43 ?_
   replace hF := obind_some hF; obtain ⟨h_45, e46, hF⟩ := hF
   refine WL.e h_45 (store_row (P := Try.prog) (h := h_43) (t := 27) (v := (.agg t39)) (by kernel_rfl) (by kernel_rfl) e46) ?_
   refine WL.n ?_
   refine Go.weaken (l' := [(0, strA t0), (5, v25), (6, (newP h_16)), (7, v30), (8, (newP h_26)), (9, v38), (10, (newP h_38))]) (Fr.c (Fr.c (Fr.c (Fr.c (Fr.c (Fr.c (Fr.c Fr.n))))))) ?_
   refine n35 ?_
   refine W.s (fun K47 n47 e47 q47 p47 => ?_)
   refine W.s (fun K48 n48 e48 q48 p48 => ?_)
   refine W.r ?_
   refine WL.a (some 40) (AV.ptr (AHeap.next h_16) 0) h_45 ?_
   replace hF := obind_some hF; obtain ⟨v41, e49, hF⟩ := hF
   replace hF := obind_some hF; obtain ⟨t41, c50, hF⟩ := hF
   have c50 := avInt_some c50
   subst c50
   refine WL.b (some 41) (.int .i64 t41) h_45 (load_cell (P := Try.prog) (h := h_45) (t := 25) (by kernel_rfl) e49) ?_
   replace hF := lett_some hF; obtain ⟨t42, e51, hF⟩ := hF
   refine WL.val (d := (some 42)) (v := .bool t42) (h' := h_45) (by kernel_rfl) (by kernel_rfl) (val_of AV.bool e51 (by kernel_rfl)) ?_
   refine WL.n ?_
   refine Go.weaken (l' := [(0, strA t0), (5, v25), (6, (newP h_16)), (7, v30), (8, (newP h_26)), (9, v38), (10, (newP h_38)), (42, .bool t42)]) (Fr.c (Fr.c (Fr.c (Fr.c (Fr.c (Fr.c (Fr.c (Fr.c Fr.n)))))))) ?_
   refine n48 ?_
   cases t42 with
   | true =>
    replace hF := ifB_t hF
    refine W.t ?_
    refine W.s (fun K52 n52 e52 q52 p52 => ?_)
    refine W.r ?_
    refine WL.a (some 43) (AV.ptr (AHeap.next h_38) 0) h_45 ?_
    replace hF := obind_some hF; obtain ⟨v44, e53, hF⟩ := hF
    replace hF := obind_some hF; obtain ⟨t44, c54, hF⟩ := hF
    have c54 := avInt_some c54
    subst c54
    refine WL.b (some 44) (.int .i64 t44) h_45 (load_cell (P := Try.prog) (h := h_45) (t := 25) (by kernel_rfl) e53) ?_
    replace hF := lett_some hF; obtain ⟨t45, e55, hF⟩ := hF
    refine WL.val (d := (some 45)) (v := .bool t45) (h' := h_45) (by kernel_rfl) (by kernel_rfl) (val_of AV.bool e55 (by kernel_rfl)) ?_
    refine WL.a (some 46) (.bool t45) h_45 ?_
    replace hF := lett_some hF; obtain ⟨j52, e57, hF⟩ := hF
    have J58 : ∀ (t52 : Bool) (h_56 : AHeap), j52 t52 h_56 = some (rR, hR) → WL Try.prog w0 m0 (Func.ntmps Try.f4) (Code.ops (Code.p1 (Code.p1 (Code.p2 (Code.p1 (Code.p2 (Code.p2 (Code.p2 (Code.p2 (Code.p2 (Code.p2 (codeOf Try.f4)))))))))))) 10 K52 [(9, v38), (52, .bool t52)] [] h_56 := by
     intro t52 h_56 hF
     rw [e57] at hF
     refine WL.a (some 53) (.bool t52) h_56 ?_
     replace hF := lett_some hF; obtain ⟨j57, e60, hF⟩ := hF
     have J61 : ∀ (t57 : Bool) (h_59 : AHeap), j57 t57 h_59 = some (rR, hR) → WL Try.prog w0 m0 (Func.ntmps Try.f4) (Code.ops (Code.p1 (Code.p1 (Code.p2 (Code.p1 (Code.p2 (Code.p2 (Code.p2 (Code.p2 (Code.p2 (Code.p2 (codeOf Try.f4)))))))))))) 15 K52 [(57, .bool t57)] [] h_59 := by
      intro t57 h_59 hF
      rw [e60] at hF
      refine WL.a (some 4) (.bool t57) h_59 ?_
      refine WL.n ?_
      refine Go.weaken (l' := [(4, .bool t57)]) (Fr.c Fr.n) ?_
      refine n52 ?_
      refine W.ret (by kernel_rfl) ?_
      refine q47 ?_
      obtain ⟨hF, hF2⟩ := ret_inj hF; subst hF; subst hF2
      exact leave_of (rs := [.tmp 4]) (vs := [.bool t57]) (by kernel_rfl) (res_tmp (by kernel_rfl) res_nil) (by kernel_rfl)
     cases t52 with
     | true =>
      replace hF := ifB_t hF
      refine WL.a (some 54) v38 h_56 ?_
      replace hF := obind_some hF; obtain ⟨t55, e62, hF⟩ := hF
      refine WL.b (some 55) (.int .i64 t55) h_56 (len_row (P := Try.prog) (h := h_56) (t := 24) (e' := 31) (by kernel_rfl) e62) ?_
      replace hF := lett_some hF; obtain ⟨t56, e63, hF⟩ := hF
      refine WL.val (d := (some 56)) (v := .bool t56) (h' := h_56) (by kernel_rfl) (by kernel_rfl) (val_of AV.bool e63 (by kernel_rfl)) ?_
      refine WL.a (some 57) (.bool t56) h_56 ?_
      exact WL.weaken (Fr.c Fr.n) (J61 _ _ hF)
     | false =>
      replace hF := ifB_f hF
      refine WL.o (some 54) ?_
      refine WL.o (some 55) ?_
      refine WL.o (some 56) ?_
      refine WL.a (some 57) (.bool false) h_56 ?_
      exact WL.weaken (Fr.c Fr.n) (J61 _ _ hF)
    cases t45 with
    | true =>
     replace hF := ifB_t hF
     refine WL.a (some 47) (AV.ptr (AHeap.next h_38) 1) h_45 ?_
     replace hF := obind_some hF; obtain ⟨v48, e64, hF⟩ := hF
     replace hF := obind_some hF; obtain ⟨t48, c65, hF⟩ := hF
     have c65 := avInt_some c65
     subst c65
     refine WL.b (some 48) (.int .i64 t48) h_45 (load_cell (P := Try.prog) (h := h_45) (t := 3) (by kernel_rfl) e64) ?_
     refine WL.a (some 49) (AV.ptr (AHeap.next h_16) 1) h_45 ?_
     replace hF := obind_some hF; obtain ⟨v50, e66, hF⟩ := hF
     replace hF := obind_some hF; obtain ⟨t50, c67, hF⟩ := hF
     have c67 := avInt_some c67
     subst c67
     refine WL.b (some 50) (.int .i64 t50) h_45 (load_cell (P := Try.prog) (h := h_45) (t := 3) (by kernel_rfl) e66) ?_
     replace hF := lett_some hF; obtain ⟨t51, e68, hF⟩ := hF
     refine WL.val (d := (some 51)) (v := .bool t51) (h' := h_45) (by kernel_rfl) (by kernel_rfl) (val_of AV.bool e68 (by kernel_rfl)) ?_
     refine WL.a (some 52) (.bool t51) h_45 ?_
     exact WL.weaken (Fr.c (Fr.c Fr.n)) (J58 _ _ hF)
    | false =>
     replace hF := ifB_f hF
     refine WL.o (some 47) ?_
     refine WL.o (some 48) ?_
     refine WL.o (some 49) ?_
     refine WL.o (some 50) ?_
     refine WL.o (some 51) ?_
     refine WL.a (some 52) (.bool false) h_45 ?_
     exact WL.weaken (Fr.c (Fr.c Fr.n)) (J58 _ _ hF)
   | false =>
    replace hF := ifB_f hF
    refine W.f ?_
    refine W.skip (by kernel_rfl) ?_
    refine n47 ?_
    refine W.s (fun K69 n69 e69 q69 p69 => ?_)
    refine W.s (fun K70 n70 e70 q70 p70 => ?_)
    refine W.r ?_
    refine WL.a (some 58) (AV.ptr (AHeap.next h_26) 0) h_45 ?_
    replace hF := obind_some hF; obtain ⟨v59, e71, hF⟩ := hF
    replace hF := obind_some hF; obtain ⟨t59, c72, hF⟩ := hF
    have c72 := avInt_some c72
    subst c72
    refine WL.b (some 59) (.int .i64 t59) h_45 (load_cell (P := Try.prog) (h := h_45) (t := 25) (by kernel_rfl) e71) ?_
    replace hF := lett_some hF; obtain ⟨t60, e73, hF⟩ := hF
    refine WL.val (d := (some 60)) (v := .bool t60) (h' := h_45) (by kernel_rfl) (by kernel_rfl) (val_of AV.bool e73 (by kernel_rfl)) ?_
    refine WL.n ?_
    refine Go.weaken (l' := [(0, strA t0), (5, v25), (7, v30), (8, (newP h_26)), (9, v38), (10, (newP h_38)), (60, .bool t60)]) (Fr.c (Fr.c (Fr.c (Fr.c (Fr.c (Fr.c (Fr.c Fr.n))))))) ?_
    refine n70 ?_
    cases t60 with
    | true =>
     replace hF := ifB_t hF
     refine W.t ?_
     refine W.s (fun K74 n74 e74 q74 p74 => ?_)
     refine W.r ?_
     refine WL.a (some 61) (AV.ptr (AHeap.next h_38) 0) h_45 ?_
     replace hF := obind_some hF; obtain ⟨v62, e75, hF⟩ := hF
     replace hF := obind_some hF; obtain ⟨t62, c76, hF⟩ := hF
     have c76 := avInt_some c76
     subst c76
     refine WL.b (some 62) (.int .i64 t62) h_45 (load_cell (P := Try.prog) (h := h_45) (t := 25) (by kernel_rfl) e75) ?_
     refine WL.a (some 63) (AV.ptr (AHeap.next h_26) 0) h_45 ?_
     replace hF := obind_some hF; obtain ⟨v64, e77, hF⟩ := hF
     replace hF := obind_some hF; obtain ⟨t64, c78, hF⟩ := hF
     have c78 := avInt_some c78
     subst c78
     refine WL.b (some 64) (.int .i64 t64) h_45 (load_cell (P := Try.prog) (h := h_45) (t := 25) (by kernel_rfl) e77) ?_
     replace hF := lett_some hF; obtain ⟨t65, e79, hF⟩ := hF
     refine WL.val (d := (some 65)) (v := .bool t65) (h' := h_45) (by kernel_rfl) (by kernel_rfl) (val_of AV.bool e79 (by kernel_rfl)) ?_
     refine WL.a (some 66) (.bool t65) h_45 ?_
     replace hF := lett_some hF; obtain ⟨j76, e81, hF⟩ := hF
     have J82 : ∀ (t76 : Bool) (h_80 : AHeap), j76 t76 h_80 = some (rR, hR) → WL Try.prog w0 m0 (Func.ntmps Try.f4) (Code.ops (Code.p1 (Code.p1 (Code.p2 (Code.p1 (Code.p2 (Code.p2 (Code.p2 (Code.p2 (Code.p2 (Code.p2 (Code.p2 (codeOf Try.f4))))))))))))) 16 K74 [(9, v38), (76, .bool t76)] [] h_80 := by
      intro t76 h_80 hF
      rw [e81] at hF
      refine WL.a (some 77) (.bool t76) h_80 ?_
      replace hF := lett_some hF; obtain ⟨j81, e84, hF⟩ := hF
      have J85 : ∀ (t81 : Bool) (h_83 : AHeap), j81 t81 h_83 = some (rR, hR) → WL Try.prog w0 m0 (Func.ntmps Try.f4) (Code.ops (Code.p1 (Code.p1 (Code.p2 (Code.p1 (Code.p2 (Code.p2 (Code.p2 (Code.p2 (Code.p2 (Code.p2 (Code.p2 (codeOf Try.f4))))))))))))) 21 K74 [(81, .bool t81)] [] h_83 := by
       intro t81 h_83 hF
       rw [e84] at hF
       refine WL.a (some 4) (.bool t81) h_83 ?_
       refine WL.n ?_
       refine Go.weaken (l' := [(4, .bool t81)]) (Fr.c Fr.n) ?_
       refine n74 ?_
       refine W.ret (by kernel_rfl) ?_
       refine q69 ?_
       obtain ⟨hF, hF2⟩ := ret_inj hF; subst hF; subst hF2
       exact leave_of (rs := [.tmp 4]) (vs := [.bool t81]) (by kernel_rfl) (res_tmp (by kernel_rfl) res_nil) (by kernel_rfl)
      cases t76 with
      | true =>
       replace hF := ifB_t hF
       refine WL.a (some 78) v38 h_80 ?_
       replace hF := obind_some hF; obtain ⟨t79, e86, hF⟩ := hF
       refine WL.b (some 79) (.int .i64 t79) h_80 (len_row (P := Try.prog) (h := h_80) (t := 24) (e' := 31) (by kernel_rfl) e86) ?_
       replace hF := lett_some hF; obtain ⟨t80, e87, hF⟩ := hF
       refine WL.val (d := (some 80)) (v := .bool t80) (h' := h_80) (by kernel_rfl) (by kernel_rfl) (val_of AV.bool e87 (by kernel_rfl)) ?_
       refine WL.a (some 81) (.bool t80) h_80 ?_
       exact WL.weaken (Fr.c Fr.n) (J85 _ _ hF)
      | false =>
       replace hF := ifB_f hF
       refine WL.o (some 78) ?_
       refine WL.o (some 79) ?_
       refine WL.o (some 80) ?_
       refine WL.a (some 81) (.bool false) h_80 ?_
       exact WL.weaken (Fr.c Fr.n) (J85 _ _ hF)
     cases t65 with
     | true =>
      replace hF := ifB_t hF
      refine WL.a (some 67) (AV.ptr (AHeap.next h_38) 1) h_45 ?_
      replace hF := obind_some hF; obtain ⟨v68, e88, hF⟩ := hF
      replace hF := obind_some hF; obtain ⟨t68, c89, hF⟩ := hF
      have c89 := avInt_some c89
      subst c89
      refine WL.b (some 68) (.int .i64 t68) h_45 (load_cell (P := Try.prog) (h := h_45) (t := 3) (by kernel_rfl) e88) ?_
      refine WL.a (some 69) (strA t0) h_45 ?_
      refine WL.a (some 70) (.int .i64 (lenS t0)) h_45 ?_
      replace hF := lett_some hF; obtain ⟨t71, e90, hF⟩ := hF
      refine WL.val (d := (some 71)) (v := .int .i64 t71) (h' := h_45) (by kernel_rfl) (by kernel_rfl) (val_of (AV.int .i64) e90 (by kernel_rfl)) ?_
      refine WL.a (some 72) (AV.ptr (AHeap.next h_26) 1) h_45 ?_
      replace hF := obind_some hF; obtain ⟨v73, e91, hF⟩ := hF
      replace hF := obind_some hF; obtain ⟨t73, c92, hF⟩ := hF
      have c92 := avInt_some c92
      subst c92
      refine WL.b (some 73) (.int .i64 t73) h_45 (load_cell (P := Try.prog) (h := h_45) (t := 3) (by kernel_rfl) e91) ?_
      replace hF := lett_some hF; obtain ⟨t74, e93, hF⟩ := hF
      refine WL.val (d := (some 74)) (v := .int .i64 t74) (h' := h_45) (by kernel_rfl) (by kernel_rfl) (val_of (AV.int .i64) e93 (by kernel_rfl)) ?_
      replace hF := lett_some hF; obtain ⟨t75, e94, hF⟩ := hF
      refine WL.val (d := (some 75)) (v := .bool t75) (h' := h_45) (by kernel_rfl) (by kernel_rfl) (val_of AV.bool e94 (by kernel_rfl)) ?_
      refine WL.a (some 76) (.bool t75) h_45 ?_
      exact WL.weaken (Fr.c (Fr.c Fr.n)) (J82 _ _ hF)
     | false =>
      replace hF := ifB_f hF
      refine WL.o (some 67) ?_
      refine WL.o (some 68) ?_
      refine WL.o (some 69) ?_
      refine WL.o (some 70) ?_
      refine WL.o (some 71) ?_
      refine WL.o (some 72) ?_
      refine WL.o (some 73) ?_
      refine WL.o (some 74) ?_
      refine WL.o (some 75) ?_
      refine WL.a (some 76) (.bool false) h_45 ?_
      exact WL.weaken (Fr.c (Fr.c Fr.n)) (J82 _ _ hF)
    | false =>
     replace hF := ifB_f hF
     refine W.f ?_
     refine W.skip (by kernel_rfl) ?_
     refine n69 ?_
     refine W.s (fun K95 n95 e95 q95 p95 => ?_)
     refine W.s (fun K96 n96 e96 q96 p96 => ?_)
     refine W.r ?_
     refine WL.a (some 82) (AV.ptr (AHeap.next h_38) 0) h_45 ?_
     replace hF := obind_some hF; obtain ⟨v83, e97, hF⟩ := hF
     replace hF := obind_some hF; obtain ⟨t83, c98, hF⟩ := hF
     have c98 := avInt_some c98
     subst c98
     refine WL.b (some 83) (.int .i64 t83) h_45 (load_cell (P := Try.prog) (h := h_45) (t := 25) (by kernel_rfl) e97) ?_
     replace hF := lett_some hF; obtain ⟨t84, e99, hF⟩ := hF
     refine WL.val (d := (some 84)) (v := .bool t84) (h' := h_45) (by kernel_rfl) (by kernel_rfl) (val_of AV.bool e99 (by kernel_rfl)) ?_
     refine WL.a (some 85) (.bool t84) h_45 ?_
     replace hF := lett_some hF; obtain ⟨j94, e101, hF⟩ := hF
     have J102 : ∀ (t94 : Bool) (h_100 : AHeap), j94 t94 h_100 = some (rR, hR) → WL Try.prog w0 m0 (Func.ntmps Try.f4) (Code.ops (Code.p1 (Code.p1 (Code.p2 (Code.p2 (Code.p2 (Code.p2 (Code.p2 (Code.p2 (Code.p2 (Code.p2 (codeOf Try.f4)))))))))))) 13 K96 [(0, strA t0), (5, v25), (7, v30), (9, v38), (94, .bool t94)] [] h_100 := by
      intro t94 h_100 hF
      rw [e101] at hF
      refine WL.n ?_
      refine Go.weaken (l' := [(0, strA t0), (5, v25), (7, v30), (9, v38), (94, .bool t94)]) (Fr.c (Fr.c (Fr.c (Fr.c (Fr.c Fr.n))))) ?_
      refine n96 ?_
      cases t94 with
      | true =>
       replace hF := ifB_t hF
       refine W.t ?_
       refine W.s (fun K103 n103 e103 q103 p103 => ?_)
       refine W.r ?_
       refine WL.a (some 4) (.bool false) h_100 ?_
       refine WL.n ?_
       refine Go.weaken (l' := [(4, .bool false)]) (Fr.c Fr.n) ?_
       refine n103 ?_
       refine W.ret (by kernel_rfl) ?_
       refine q95 ?_
       obtain ⟨hF, hF2⟩ := ret_inj hF; subst hF; subst hF2
       exact leave_of (rs := [.tmp 4]) (vs := [.bool false]) (by kernel_rfl) (res_tmp (by kernel_rfl) res_nil) (by kernel_rfl)
      | false =>
       replace hF := ifB_f hF
       refine W.f ?_
       refine W.skip (by kernel_rfl) ?_
       refine n95 ?_
       refine W.s (fun K104 n104 e104 q104 p104 => ?_)
       refine W.s (fun K105 n105 e105 q105 p105 => ?_)
       refine W.r ?_
       refine WL.a (some 11) (.int .i64 0) h_100 ?_
       refine WL.n ?_
       refine Go.weaken (l' := [(0, strA t0), (5, v25), (7, v30), (9, v38), (11, .int .i64 0)]) (Fr.c (Fr.c (Fr.c (Fr.c (Fr.c Fr.n))))) ?_
       refine n105 ?_
       replace hF := lett_some hF; obtain ⟨k107, e107, hF⟩ := hF
       have J107 : ∀  (h_108 : AHeap), k107 h_108 = some (rR, hR) → Go w0 m0 (Func.ntmps Try.f4) (K104 .normal) [] [] h_108 := by
        intro  h_108 hF
        rw [e107] at hF
        refine n104 ?_
        refine W.s (fun K109 n109 e109 q109 p109 => ?_)
        refine W.r ?_
        refine WL.a (some 4) (.bool true) h_108 ?_
        refine WL.n ?_
        refine Go.weaken (l' := [(4, .bool true)]) (Fr.c Fr.n) ?_
        refine n109 ?_
        refine W.ret (by kernel_rfl) ?_
        obtain ⟨hF, hF2⟩ := ret_inj hF; subst hF; subst hF2
        exact leave_of (rs := [.tmp 4]) (vs := [.bool true]) (by kernel_rfl) (res_tmp (by kernel_rfl) res_nil) (by kernel_rfl)
       refine W.blockK (by kernel_rfl) (fun K106 n106 s106 o106 q106 p106 => ?_)
       refine W.loopK (by kernel_rfl) (fun I110 K110 b110 n110 e110 q110 p110 => ?_)
       have L110 : ∀ (m : Nat) (t11 : Int) (h_111 : AHeap), law12_LexLines_L0 t0 v25 v30 v38 k107 m t11 h_111 = some (rR, hR) → Go w0 m0 (Func.ntmps Try.f4) I110 [(0, strA t0), (5, v25), (7, v30), (9, v38), (11, .int .i64 t11)] [] h_111 := by
        intro m
        induction m with
        | zero => intro t11 h_111 hF; cases hF
        | succ m ih110 =>
         intro t11 h_111 hF
         rw [law12_LexLines_L0_s] at hF; unfold law12_LexLines_L0b at hF
         refine b110 ?_
         refine W.s (fun K112 n112 e112 q112 p112 => ?_)
         refine W.s (fun K113 n113 e113 q113 p113 => ?_)
         refine W.r ?_
         refine WL.a (some 95) (.int .i64 t11) h_111 ?_
         refine WL.a (some 96) v38 h_111 ?_
         replace hF := obind_some hF; obtain ⟨t97, e114, hF⟩ := hF
         refine WL.b (some 97) (.int .i64 t97) h_111 (len_row (P := Try.prog) (h := h_111) (t := 24) (e' := 31) (by kernel_rfl) e114) ?_
         replace hF := lett_some hF; obtain ⟨t98, e115, hF⟩ := hF
         refine WL.val (d := (some 98)) (v := .bool t98) (h' := h_111) (by kernel_rfl) (by kernel_rfl) (val_of AV.bool e115 (by kernel_rfl)) ?_
         refine WL.n ?_
         refine Go.weaken (l' := [(0, strA t0), (5, v25), (7, v30), (9, v38), (11, .int .i64 t11), (98, .bool t98)]) (Fr.c (Fr.c (Fr.c (Fr.c (Fr.c (Fr.c Fr.n)))))) ?_
         refine n113 ?_
         cases t98 with
         | true =>
          replace hF := ifB_t hF
          refine W.t ?_
          refine W.skip (by kernel_rfl) ?_
          refine n112 ?_
          refine W.s (fun K116 n116 e116 q116 p116 => ?_)
          refine W.blockK (by kernel_rfl) (fun K117 n117 s117 o117 q117 p117 => ?_)
          refine W.s (fun K118 n118 e118 q118 p118 => ?_)
          refine W.r ?_
          refine WL.a (some 101) (.agg ([.int .i64 0, .str 0 0, .int .i64 0, .int .i64 0] : List AV)) h_111 ?_
          replace hF := lett_some hF; obtain ⟨h_119, e120, hF⟩ := hF
          refine WL.val (d := (some 12)) (v := (newP h_111)) (h' := h_119) (by kernel_rfl) (by kernel_rfl) (val_ofH e120 (by kernel_rfl)) ?_
          replace hF := obind_some hF; obtain ⟨h_121, e122, hF⟩ := hF
          refine WL.e h_121 (store_row (P := Try.prog) (h := h_119) (t := 31) (v := (.agg ([.int .i64 0, .str 0 0, .int .i64 0, .int .i64 0] : List AV))) (by kernel_rfl) (by kernel_rfl) e122) ?_
          refine WL.n ?_
          refine Go.weaken (l' := [(0, strA t0), (5, v25), (7, v30), (9, v38), (11, .int .i64 t11), (12, (newP h_111))]) (Fr.c (Fr.c (Fr.c (Fr.c (Fr.c (Fr.c Fr.n)))))) ?_
          refine n118 ?_
          refine W.s (fun K123 n123 e123 q123 p123 => ?_)
          refine W.s (fun K124 n124 e124 q124 p124 => ?_)
          refine W.r ?_
          refine WL.a (some 102) (.int .i64 t11) h_121 ?_
          refine WL.a (some 103) v25 h_121 ?_
          replace hF := obind_some hF; obtain ⟨t104, e125, hF⟩ := hF
          refine WL.b (some 104) (.int .i64 t104) h_121 (len_row (P := Try.prog) (h := h_121) (t := 24) (e' := 31) (by kernel_rfl) e125) ?_
          replace hF := lett_some hF; obtain ⟨t105, e126, hF⟩ := hF
          refine WL.val (d := (some 105)) (v := .bool t105) (h' := h_121) (by kernel_rfl) (by kernel_rfl) (val_of AV.bool e126 (by kernel_rfl)) ?_
          refine WL.n ?_
          refine Go.weaken (l' := [(0, strA t0), (5, v25), (7, v30), (9, v38), (11, .int .i64 t11), (12, (newP h_111)), (105, .bool t105)]) (Fr.c (Fr.c (Fr.c (Fr.c (Fr.c (Fr.c (Fr.c Fr.n))))))) ?_
          refine n124 ?_
          replace hF := lett_some hF; obtain ⟨k127, e127, hF⟩ := hF
          have J127 : ∀  (h_128 : AHeap), k127 h_128 = some (rR, hR) → Go w0 m0 (Func.ntmps Try.f4) (K123 .normal) [(0, strA t0), (5, v25), (7, v30), (9, v38), (11, .int .i64 t11), (12, (newP h_111))] [] h_128 := by
           intro  h_128 hF
           rw [e127] at hF
           refine n123 ?_
           refine W.s (fun K129 n129 e129 q129 p129 => ?_)
           refine W.draw (by kernel_rfl) (hc.ok w0) (plan := [0, 1, 2, 3, 4, 5]) (by kernel_rfl) (by kernel_rfl) (by kernel_rfl) ?_
           refine WD.a 0 (some 124) v38 h_128 ?_
           refine WD.a 0 (some 125) (.int .i64 t11) h_128 ?_
           replace hF := obind_some hF; obtain ⟨t126, e130, hF⟩ := hF
           refine WD.b 0 (some 126) t126 h_128 (index_row (P := Try.prog) (h := h_128) (t := 24) (e' := 31) (k := .i64) (by kernel_rfl) (by kernel_rfl) (by kernel_rfl) e130) ?_
           replace hF := obind_some hF; obtain ⟨t127, e131, hF⟩ := hF
           refine WD.b 1 (some 127) (.agg t127) h_128 (load_row (P := Try.prog) (h := h_128) (t := 31) (by kernel_rfl) (by kernel_rfl) e131) ?_
           replace hF := obind_some hF; obtain ⟨t128, e132, hF⟩ := hF
           refine WD.b 1 (some 128) (.agg t128) h_128 (load_row (P := Try.prog) (h := h_128) (t := 31) (by kernel_rfl) (by kernel_rfl) e132) ?_
           replace hF := obind_some hF; obtain ⟨t129, e133, hF⟩ := hF
           replace hF := lett_some hF; obtain ⟨t129_134, e135, hF⟩ := hF
           refine WD.val (d := (some 129)) (v := .bool t129_134) (h' := h_128) (by kernel_rfl) (by kernel_rfl) (val_of AV.bool e135 (Eq.trans (by kernel_rfl) (neq_other (P := Try.prog) (h := h_128) (t := 31) (lit := false) (by kernel_rfl) e133))) (k := 0) (by kernel_rfl) (fun e => absurd e (by decide)) (by decide) ?_
           refine WD.nil ?_
           refine Go.weaken (l' := [(0, strA t0), (5, v25), (7, v30), (9, v38), (11, .int .i64 t11), (129, .bool t129_134)]) (Fr.c (Fr.c (Fr.c (Fr.c (Fr.c (Fr.c Fr.n)))))) ?_
           refine n129 ?_
           cases t129_134 with
           | true =>
            replace hF := ifB_t hF
            refine W.t ?_
            refine W.s (fun K136 n136 e136 q136 p136 => ?_)
            refine W.r ?_
            refine WL.a (some 4) (.bool false) h_128 ?_
            refine WL.n ?_
            refine Go.weaken (l' := [(4, .bool false)]) (Fr.c Fr.n) ?_
            refine n136 ?_
            refine W.ret (by kernel_rfl) ?_
            refine q117 ?_
            refine q116 ?_
            refine q110 ?_
            refine q106 ?_
            refine q104 ?_
            obtain ⟨hF, hF2⟩ := ret_inj hF; subst hF; subst hF2
            exact leave_of (rs := [.tmp 4]) (vs := [.bool false]) (by kernel_rfl) (res_tmp (by kernel_rfl) res_nil) (by kernel_rfl)
           | false =>
            replace hF := ifB_f hF
            refine W.f ?_
            refine W.skip (by kernel_rfl) ?_
            refine n117 ?_
            refine n116 ?_
            refine W.r ?_
            refine WL.a (some 99) (.int .i64 t11) h_128 ?_
            replace hF := lett_some hF; obtain ⟨t100, e137, hF⟩ := hF
            refine WL.val (d := (some 100)) (v := .int .i64 t100) (h' := h_128) (by kernel_rfl) (by kernel_rfl) (val_of (AV.int .i64) e137 (by kernel_rfl)) ?_
            refine WL.a (some 11) (.int .i64 t100) h_128 ?_
            refine WL.n ?_
            refine Go.weaken (l' := [(0, strA t0), (5, v25), (7, v30), (9, v38), (11, .int .i64 t100)]) (Fr.c (Fr.c (Fr.c (Fr.c (Fr.c Fr.n))))) ?_
            refine n110 ?_
            exact Go.weaken (Fr.c (Fr.c (Fr.c (Fr.c (Fr.c Fr.n))))) (ih110 _ _ hF)
          cases t105 with
          | true =>
           replace hF := ifB_t hF
           refine W.t ?_
           refine W.r ?_
           refine WL.a (some 106) v25 h_121 ?_
           refine WL.a (some 107) (.int .i64 t11) h_121 ?_
           replace hF := obind_some hF; obtain ⟨t108, e138, hF⟩ := hF
           refine WL.b (some 108) t108 h_121 (index_row (P := Try.prog) (h := h_121) (t := 24) (e' := 31) (k := .i64) (by kernel_rfl) (by kernel_rfl) (by kernel_rfl) e138) ?_
           replace hF := obind_some hF; obtain ⟨t109, e139, hF⟩ := hF
           refine WL.b (some 109) (.agg t109) h_121 (load_row (P := Try.prog) (h := h_121) (t := 31) (by kernel_rfl) (by kernel_rfl) e139) ?_
           replace hF := obind_some hF; obtain ⟨h_140, e141, hF⟩ := hF
           refine WL.e h_140 (store_row (P := Try.prog) (h := h_121) (t := 31) (v := (.agg t109)) (by kernel_rfl) (by kernel_rfl) e141) ?_
           refine WL.n ?_
           refine Go.weaken (l' := [(0, strA t0), (5, v25), (7, v30), (9, v38), (11, .int .i64 t11), (12, (newP h_111))]) (Fr.c (Fr.c (Fr.c (Fr.c (Fr.c (Fr.c Fr.n)))))) ?_
           exact Go.weaken (Fr.c (Fr.c (Fr.c (Fr.c (Fr.c (Fr.c Fr.n)))))) (J127 _ hF)
          | false =>
           replace hF := ifB_f hF
           refine W.f ?_
           refine W.s (fun K142 n142 e142 q142 p142 => ?_)
           refine W.r ?_
           refine WL.a (some 110) v30 h_121 ?_
           refine WL.a (some 111) (.int .i64 t11) h_121 ?_
           refine WL.a (some 112) v25 h_121 ?_
           replace hF := obind_some hF; obtain ⟨t113, e143, hF⟩ := hF
           refine WL.b (some 113) (.int .i64 t113) h_121 (len_row (P := Try.prog) (h := h_121) (t := 24) (e' := 31) (by kernel_rfl) e143) ?_
           replace hF := lett_some hF; obtain ⟨t114, e144, hF⟩ := hF
           refine WL.val (d := (some 114)) (v := .int .i64 t114) (h' := h_121) (by kernel_rfl) (by kernel_rfl) (val_of (AV.int .i64) e144 (by kernel_rfl)) ?_
           replace hF := obind_some hF; obtain ⟨t115, e145, hF⟩ := hF
           refine WL.b (some 115) t115 h_121 (index_row (P := Try.prog) (h := h_121) (t := 24) (e' := 31) (k := .i64) (by kernel_rfl) (by kernel_rfl) (by kernel_rfl) e145) ?_
           replace hF := obind_some hF; obtain ⟨t116, e146, hF⟩ := hF
           refine WL.b (some 116) (.agg t116) h_121 (load_row (P := Try.prog) (h := h_121) (t := 31) (by kernel_rfl) (by kernel_rfl) e146) ?_
           replace hF := obind_some hF; obtain ⟨h_147, e148, hF⟩ := hF
           refine WL.e h_147 (store_row (P := Try.prog) (h := h_121) (t := 31) (v := (.agg t116)) (by kernel_rfl) (by kernel_rfl) e148) ?_
           refine WL.n ?_
           refine Go.weaken (l' := [(0, strA t0), (5, v25), (7, v30), (9, v38), (11, .int .i64 t11), (12, (newP h_111))]) (Fr.c (Fr.c (Fr.c (Fr.c (Fr.c (Fr.c Fr.n)))))) ?_
           refine n142 ?_
           refine W.r ?_
           refine WL.a (some 117) (AV.ptr (AHeap.next h_111) 3) h_147 ?_
           replace hF := obind_some hF; obtain ⟨v118, e149, hF⟩ := hF
           replace hF := obind_some hF; obtain ⟨t118, c150, hF⟩ := hF
           have c150 := avInt_some c150
           subst c150
           refine WL.b (some 118) (.int .i64 t118) h_147 (load_cell (P := Try.prog) (h := h_147) (t := 3) (by kernel_rfl) e149) ?_
           refine WL.a (some 119) (strA t0) h_147 ?_
           refine WL.a (some 120) (.int .i64 (lenS t0)) h_147 ?_
           replace hF := lett_some hF; obtain ⟨t121, e151, hF⟩ := hF
           refine WL.val (d := (some 121)) (v := .int .i64 t121) (h' := h_147) (by kernel_rfl) (by kernel_rfl) (val_of (AV.int .i64) e151 (by kernel_rfl)) ?_
           replace hF := lett_some hF; obtain ⟨t122, e152, hF⟩ := hF
           refine WL.val (d := (some 122)) (v := .int .i64 t122) (h' := h_147) (by kernel_rfl) (by kernel_rfl) (val_of (AV.int .i64) e152 (by kernel_rfl)) ?_
           refine WL.a (some 123) (AV.ptr (AHeap.next h_111) 3) h_147 ?_
           replace hF := obind_some hF; obtain ⟨h_153, e154, hF⟩ := hF
           refine WL.e h_153 (store_row (P := Try.prog) (h := h_147) (t := 3) (v := (.int .i64 t122)) (by kernel_rfl) (by kernel_rfl) e154) ?_
           refine WL.n ?_
           refine Go.weaken (l' := [(0, strA t0), (5, v25), (7, v30), (9, v38), (11, .int .i64 t11), (12, (newP h_111))]) (Fr.c (Fr.c (Fr.c (Fr.c (Fr.c (Fr.c Fr.n)))))) ?_
           exact Go.weaken (Fr.c (Fr.c (Fr.c (Fr.c (Fr.c (Fr.c Fr.n)))))) (J127 _ hF)
         | false =>
          replace hF := ifB_f hF
          refine W.f ?_
          refine W.exit (by kernel_rfl) ?_
          refine e112 ?_
          refine e110 ?_
          refine s106 (by kernel_rfl) ?_
          exact Go.weaken Fr.n (J107 _ hF)
       exact Go.weaken (Fr.c (Fr.c (Fr.c (Fr.c (Fr.c Fr.n))))) (L110 _ _ _ hF)
     cases t84 with
     | true =>
      replace hF := ifB_t hF
      refine WL.o (some 86) ?_
      refine WL.o (some 87) ?_
      refine WL.o (some 88) ?_
      refine WL.o (some 89) ?_
      refine WL.o (some 90) ?_
      refine WL.o (some 91) ?_
      refine WL.o (some 92) ?_
      refine WL.o (some 93) ?_
      refine WL.a (some 94) (.bool true) h_45 ?_
      exact WL.weaken (Fr.c (Fr.c (Fr.c (Fr.c (Fr.c Fr.n))))) (J102 _ _ hF)
     | false =>
      replace hF := ifB_f hF
      refine WL.a (some 86) v38 h_45 ?_
      replace hF := obind_some hF; obtain ⟨t87, e155, hF⟩ := hF
      refine WL.b (some 87) (.int .i64 t87) h_45 (len_row (P := Try.prog) (h := h_45) (t := 24) (e' := 31) (by kernel_rfl) e155) ?_
      refine WL.a (some 88) v25 h_45 ?_
      replace hF := obind_some hF; obtain ⟨t89, e156, hF⟩ := hF
      refine WL.b (some 89) (.int .i64 t89) h_45 (len_row (P := Try.prog) (h := h_45) (t := 24) (e' := 31) (by kernel_rfl) e156) ?_
      refine WL.a (some 90) v30 h_45 ?_
      replace hF := obind_some hF; obtain ⟨t91, e157, hF⟩ := hF
      refine WL.b (some 91) (.int .i64 t91) h_45 (len_row (P := Try.prog) (h := h_45) (t := 24) (e' := 31) (by kernel_rfl) e157) ?_
      replace hF := lett_some hF; obtain ⟨t92, e158, hF⟩ := hF
      refine WL.val (d := (some 92)) (v := .int .i64 t92) (h' := h_45) (by kernel_rfl) (by kernel_rfl) (val_of (AV.int .i64) e158 (by kernel_rfl)) ?_
      replace hF := lett_some hF; obtain ⟨t93, e159, hF⟩ := hF
      refine WL.val (d := (some 93)) (v := .bool t93) (h' := h_45) (by kernel_rfl) (by kernel_rfl) (val_of AV.bool e159 (by kernel_rfl)) ?_
      refine WL.a (some 94) (.bool t93) h_45 ?_
      exact WL.weaken (Fr.c (Fr.c (Fr.c (Fr.c (Fr.c Fr.n))))) (J102 _ _ hF)
end Go.Proofs.Ytjopejiooipmkaa

namespace Go.Proofs.Ytjopejiooipmkaa
open Go.RowKit Abs
/-- what is told: the error, its place, the tokens -/
def LR.e : LR → Int
 | .ok _ _ => 0
 | .bad e _ => e
def LR.at : LR → Nat
 | .ok _ _ => 0
 | .bad _ q => q
def LR.rows : LR → List (List AV)
 | .ok l _ => l
 | .bad _ _ => []
theorem works_w (n d : Nat) (h : AHeap) : world n (d + 1) 7 [] h = some (.ret (.bool true), h) := w_true n d [] h
section
variable {n d p c b N : Nat} {h h0 H : AHeap} {u : Bytes} {Q : ARes → AHeap → Prop} {v : AV} {S : List Nat} {ys T : List RowT} {rows ls : List (List AV)}
theorem lex_g (hu : u.length ≤ 1000000) (hn : u.length + 20 < n) (hxB : memB TBld h.ex = true) (hx8 : memB TU8 h.ex = false) (hxT : memB TTok h.ex = false) : ∃ h' v T, world n (d + 14) 9 [strA u] h = some (.ret (.tup [v, .agg [.int .i64 (lexAll u).e, .int .i64 ((lexAll u).at : Int)]]), h') ∧ GrowT TTok 4 (lexAll u).rows v T ∧ Mem [] h h' T := by
 have hp := lex_w (n := n) (d := d) (h := h) (u := u) hu hn hxB hx8 hxT
 cases hQ : lexAll u with
 | ok l q =>
  rw [hQ] at hp
  obtain ⟨h1, v1, T1, e1, g1, M1⟩ := hp
  exact ⟨h1, v1, T1, e1, g1, M1⟩
 | bad e q =>
  rw [hQ] at hp
  obtain ⟨_, h1, e1, M1⟩ := hp
  exact ⟨h1, .nsl, [], e1, GrowT.nil _ _, M1⟩
theorem lex_ne {e : Int} {q : Nat} (hn : u.length ≤ 1000000) (hQ : lexAll u = .bad e q) : e ≠ 0 := by
 have hp := lex_w (n := u.length + 21) (d := 0) (h := ⟨0, [70], .e⟩) (u := u) hn (by omega) rfl rfl rfl
 rw [hQ] at hp
 exact hp.1
theorem slc_row (hs : Slc N H 4 v ls) (hN : N ≤ H.next) {i : Nat} (hi : i < ls.length) : ∃ b, idxP 4 v (i : Int) = some (.ptr b (i * 4)) ∧ ∀ H', Tch [] H H' → ldRow H' 4 (.ptr b (i * 4)) = some ls[i] := by
 obtain ⟨b, _, x1, _⟩ := hs.row hi
 refine ⟨b, x1, fun H' t => ?_⟩
 obtain ⟨b', _, x2, r2⟩ := (hs.tch t hN (by simp)).row hi
 rw [x1] at x2
 simp only [Option.some.injEq, AV.ptr.injEq] at x2
 rw [x2.1]
 exact r2
set_option maxRecDepth 100000 in
theorem lines_loop {a : Bytes} {v25 v30 v38 : AV} {k107 : AHeap → R} {x y : List (List AV)} (ha : a.length ≤ 1000000) (hx : ∀ r ∈ x, isTok r) (hy : ∀ r ∈ y, ∃ k t m p, r = tokC k t m p ∧ p ≤ 1000000) (hxl : x.length ≤ 1000000) (hyl : y.length ≤ 1000000)
  (hk : ∀ H', Wp (k107 H') Q) :
  ∀ (f i : Nat) (H : AHeap), x.length + y.length < f + i → i ≤ x.length + y.length → N ≤ H.next → Slc N H 4 v25 x → Slc N H 4 v30 y → Slc N H 4 v38 (x ++ y.map (shR (a.length + 1))) →
   Wp (law12_LexLines_L0 a v25 v30 v38 k107 f (i : Int) H) Q
 | 0, i, H, hf, hi, hN, s1, s2, s3 => by omega
 | f + 1, i, H, hf, hi, hN, s1, s2, s3 => by
  rw [law12_LexLines_L0_s]
  unfold law12_LexLines_L0b
  have la := lenS_nat a
  have l1 := s1.len
  have l2 := s2.len
  have l3 := s3.len
  simp only [List.length_append, List.length_map] at l3
  have Mx := Mem.nil [] H
  by_cases hlt : i < x.length + y.length
  ·obtain ⟨b3, x3, r3⟩ := slc_row s3 hN (i := i) (by simpa using hlt)
   by_cases hix : i < x.length
   ·obtain ⟨b1, x1, r1⟩ := slc_row s1 hN hix
    rw [List.getElem_append_left hix] at r3
    obtain ⟨k, t, m, p, e⟩ := hx _ (List.getElem_mem hix)
    rw [e] at r1 r3
    have he := eqTok_self ⟨k, t, m, p, rfl⟩
    unfold tokC at r1 r3 he
    repeat (first | ((with_reducible apply Wp.lr0 Mx); rfl) | ((with_reducible apply Wp.sa0 Mx); rfl; rfl; (rfl); intro _ Mz; clear Mx; have Mx := Mz; clear Mz) | ((with_reducible apply Wp.mnew Mx); intro _ Mz; clear Mx; have Mx := Mz; clear Mz) | (with_reducible refine Wp.join0 (fun _ _ => ?_)) | ((with_reducible refine Wp.lettw ?_ ?_ ?_); omega; omega) | (with_reducible refine Wp.lett ?_) | ((with_reducible apply Wp.obind); (with_reducible first | exact l1 | exact l3 | exact x3 | exact x1 | exact r1 _ Mx.tch | exact r3 _ Mx.tch | exact he)) | ((with_reducible refine Wp.ift ?_ ?_); ((with_reducible apply decide_eq_true); omega)) | ((with_reducible refine Wp.iff ?_ ?_); (with_reducible exact Bool.not_true)) | (with_reducible refine Wp.go0 (by assumption) ?_) | rw [newP_eq])
    rw [show (i : Int) + 1 = ((i + 1 : Nat) : Int) by omega]
    have t := Mx.tch
    exact lines_loop ha hx hy hxl hyl hk f (i + 1) _ (by omega) (by omega) (by have := t.1; omega) (s1.tch t hN (by simp)) (s2.tch t hN (by simp)) (s3.tch t hN (by simp))
   ·obtain ⟨j, rfl⟩ : ∃ j, i = x.length + j := ⟨i - x.length, by omega⟩
    have hj : j < y.length := by omega
    obtain ⟨b2, x2, r2⟩ := slc_row s2 hN hj
    obtain ⟨k, t, m, p, e, hp⟩ := hy _ (List.getElem_mem hj)
    have e3 : (x ++ y.map (shR (a.length + 1)))[x.length + j]'(by simpa using hlt) = [.int .i64 k, strA t, .int .i64 m, .int .i64 ((p : Int) + ((a.length : Int) + 1))] := by
     rw [List.getElem_append_right (by omega)]
     simp only [Nat.add_sub_cancel_left, List.getElem_map]
     rw [e]
     rfl
    have r3' := fun H' t => (r3 H' t).trans (congrArg some e3)
    rw [e] at r2
    have he : eqOther Try.prog TTok (.agg [.int .i64 k, strA t, .int .i64 m, .int .i64 ((p : Int) + ((a.length : Int) + 1))]) (.agg [.int .i64 k, strA t, .int .i64 m, .int .i64 ((p : Int) + ((a.length : Int) + 1))]) = some true := by
     rw [eqTok]
     simp
    unfold tokC at r2
    rw [← show ((x.length + j : Nat) : Int) - (x.length : Int) = (j : Int) by omega] at x2
    clear r3 e3
    rw [← la] at he r3'
    repeat (first | ((with_reducible apply Wp.obind); (with_reducible exact avInt_int _ _)) | ((with_reducible apply Wp.ld0 Mx); rfl) | ((with_reducible apply Wp.lr0 Mx); rfl) | ((with_reducible apply Wp.ms0 Mx); exact Nat.le_of_ble_eq_true rfl; rfl; intro _ Mz; (try simp only [List.set_cons_succ] at Mz); (try simp only [List.set_cons_zero] at Mz); clear Mx; have Mx := Mz; clear Mz) | ((with_reducible apply Wp.sa0 Mx); rfl; rfl; (rfl); intro _ Mz; (try simp only [List.set_cons_succ] at Mz); (try simp only [List.set_cons_zero] at Mz); clear Mx; have Mx := Mz; clear Mz) | ((with_reducible apply Wp.mnew Mx); intro _ Mz; clear Mx; have Mx := Mz; clear Mz) | (with_reducible refine Wp.join0 (fun _ _ => ?_)) | ((with_reducible refine Wp.lettw ?_ ?_ ?_); omega; omega) | (with_reducible refine Wp.lett ?_) | ((with_reducible apply Wp.obind); (with_reducible first | exact l1 | exact l3 | exact x3 | exact x2 | exact r2 _ Mx.tch | exact r3' _ Mx.tch | exact he)) | ((with_reducible refine Wp.ift ?_ ?_); ((with_reducible apply decide_eq_true); omega)) | ((with_reducible refine Wp.iff ?_ ?_); first | (with_reducible exact Bool.not_true) | ((with_reducible apply decide_eq_false); omega)) | (with_reducible refine Wp.go0 (by assumption) ?_) | rw [newP_eq])
    rw [show ((x.length + j : Nat) : Int) + 1 = ((x.length + j + 1 : Nat) : Int) by omega]
    have t := Mx.tch
    exact lines_loop ha hx hy hxl hyl hk f (x.length + j + 1) _ (by omega) (by omega) (by have := t.1; omega) (s1.tch t hN (by simp)) (s2.tch t hN (by simp)) (s3.tch t hN (by simp))
  ·repeat (first | (with_reducible refine Wp.lett ?_) | ((with_reducible apply Wp.obind); (with_reducible exact l3)) | ((with_reducible refine Wp.iff ?_ ?_); ((with_reducible apply decide_eq_false); omega)))
   exact hk _
end
end Go.Proofs.Ytjopejiooipmkaa
