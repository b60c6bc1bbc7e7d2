/- What patternEmpties_proved stands on, part 6 of 8. -/
import Derived.Test.YteibdplpbcobbaaPe5
namespace Go.Proofs.Yteibdplpbcobbaa
open Go.RowKit Abs
set_option maxHeartbeats 4000000
set_option maxRecDepth 20000
noncomputable def ref09_Tree (call : CallF) (_ : Nat) (t0 : List AV) (h : AHeap) : R :=
 outK (opBox h 35 (some (.agg t0))) fun v1 h_2 =>
 lett (newH h_2 41 [.int .i64 0, .int .u64 0, .int .u64 0, .int .u64 0, .int .u64 0, .nsl]) fun h_4 =>
 lett (newH h_4 27 [.int .i64 0, .int .i64 0]) fun h_6 =>
 obind (fldP 0 v1) fun t9 =>
 obind (ldCell h_6 t9) fun v10 =>
 obind (avInt .i64 v10) fun t10 =>
 lett ((t10 : Int) != 1) fun (t11 : Bool) =>
 lett (fun (t16 : Bool) (h_14 : AHeap) =>
  lett (fun (t21 : Bool) (h_17 : AHeap) =>
   ifB t21
   (
    obind (stRow h_17 6 ([.int .i64 0, .int .u64 0, .int .u64 0, .int .u64 0, .int .u64 0, .nsl] : List AV) (newP h_2)) fun h_21 =>
    obind (stRow h_21 2 ([.int .i64 2, .int .i64 0] : List AV) (newP h_4)) fun h_23 =>
    obind (ldRow h_23 6 (newP h_2)) fun w2 =>
    obind (ldRow h_23 2 (newP h_4)) fun w3 =>
    some (.ret (.tup [.agg w2, .agg w3]), h_23))
   (
    obind (fldP 1 v1) fun t24 =>
    obind (ldCell h_17 t24) fun v25 =>
    obind (avStr v25) fun t25 =>
    lett (decide ((lenS t25) > 64)) fun (t27 : Bool) =>
    ifB t27
    (
     obind (stRow h_17 6 ([.int .i64 0, .int .u64 0, .int .u64 0, .int .u64 0, .int .u64 0, .nsl] : List AV) (newP h_2)) fun h_34 =>
     obind (stRow h_34 2 ([.int .i64 3, .int .i64 64] : List AV) (newP h_4)) fun h_36 =>
     obind (ldRow h_36 6 (newP h_2)) fun w2_39 =>
     obind (ldRow h_36 2 (newP h_4)) fun w3_41 =>
     some (.ret (.tup [.agg w2_39, .agg w3_41]), h_36))
    (
     obind (fldP 0 v1) fun t30 =>
     obind (ldCell h_17 t30) fun v31 =>
     obind (avInt .i64 v31) fun t31 =>
     lett ((t31 : Int) == 1) fun (t32 : Bool) =>
     ifB t32
     (
      obind (fldP 1 v1) fun t33 =>
      obind (ldCell h_17 t33) fun v34 =>
      obind (avStr v34) fun t34 =>
      callN (call 41 [strA t34] h_17) fun r35 h_52 =>
      obind (avAgg r35) fun t35 =>
      obind (stRow h_52 6 t35 (newP h_2)) fun h_55 =>
      obind (stRow h_55 2 ([.int .i64 0, .int .i64 0] : List AV) (newP h_4)) fun h_57 =>
      obind (ldRow h_57 6 (newP h_2)) fun w2_60 =>
      obind (ldRow h_57 2 (newP h_4)) fun w3_62 =>
      some (.ret (.tup [.agg w2_60, .agg w3_62]), h_57))
     (
      obind (fldP 0 v1) fun t37 =>
      obind (ldCell h_17 t37) fun v38 =>
      obind (avInt .i64 v38) fun t38 =>
      lett ((t38 : Int) == 2) fun (t39 : Bool) =>
      ifB t39
      (
       obind (fldP 1 v1) fun t41 =>
       obind (ldCell h_17 t41) fun v42 =>
       obind (avStr v42) fun t42 =>
       callN (call 42 [strA t42] h_17) fun r43 h_73 =>
       obind (extT 0 r43) fun v44 =>
       obind (avAgg v44) fun t44 =>
       obind (extT 1 r43) fun v45 =>
       obind (avBool v45) fun t45 =>
       lett (newH h_73 41 [.int .i64 0, .int .u64 0, .int .u64 0, .int .u64 0, .int .u64 0, .nsl]) fun h_79 =>
       obind (stRow h_79 6 t44 (newP h_73)) fun h_81 =>
       lett (!t45) fun (t47 : Bool) =>
       ifB t47
       (
        obind (fldP 1 v1) fun t49 =>
        obind (ldCell h_81 t49) fun v50 =>
        obind (avStr v50) fun t50 =>
        callN (call 34 [.int .i64 (lenS t50)] h_81) fun r52 h_90 =>
        obind (avAgg r52) fun t52 =>
        obind (stRow h_90 6 ([.int .i64 0, .int .u64 0, .int .u64 0, .int .u64 0, .int .u64 0, .nsl] : List AV) (newP h_2)) fun h_93 =>
        obind (stRow h_93 2 t52 (newP h_4)) fun h_95 =>
        obind (ldRow h_95 6 (newP h_2)) fun w2_98 =>
        obind (ldRow h_95 2 (newP h_4)) fun w3_100 =>
        some (.ret (.tup [.agg w2_98, .agg w3_100]), h_95))
       (
        obind (ldRow h_81 6 (newP h_73)) fun t53 =>
        obind (stRow h_81 6 t53 (newP h_2)) fun h_103 =>
        obind (stRow h_103 2 ([.int .i64 0, .int .i64 0] : List AV) (newP h_4)) fun h_105 =>
        obind (ldRow h_105 6 (newP h_2)) fun w2_108 =>
        obind (ldRow h_105 2 (newP h_4)) fun w3_110 =>
        some (.ret (.tup [.agg w2_108, .agg w3_110]), h_105)))
      (
       obind (fldP 1 v1) fun t56 =>
       obind (ldCell h_17 t56) fun v57 =>
       obind (avStr v57) fun t57 =>
       callN (call 43 [strA t57, .int .i64 0] h_17) fun r58 h_115 =>
       obind (extT 0 r58) fun v59 =>
       obind (avAgg v59) fun t59 =>
       obind (extT 1 r58) fun v60 =>
       obind (avInt .i64 v60) fun t60 =>
       obind (extT 2 r58) fun v61 =>
       obind (avBool v61) fun t61 =>
       lett (newH h_115 41 [.int .i64 0, .int .u64 0, .int .u64 0, .int .u64 0, .int .u64 0, .nsl]) fun h_123 =>
       obind (stRow h_123 6 t59 (newP h_115)) fun h_125 =>
       lett (!t61) fun (t63 : Bool) =>
       lett (fun (t70 : Bool) (h_130 : AHeap) =>
        ifB t70
        (
         callN (call 34 [.int .i64 t60] h_130) fun r73 h_134 =>
         obind (avAgg r73) fun t73 =>
         obind (stRow h_134 6 ([.int .i64 0, .int .u64 0, .int .u64 0, .int .u64 0, .int .u64 0, .nsl] : List AV) (newP h_2)) fun h_137 =>
         obind (stRow h_137 2 t73 (newP h_4)) fun h_139 =>
         obind (ldRow h_139 6 (newP h_2)) fun w2_142 =>
         obind (ldRow h_139 2 (newP h_4)) fun w3_144 =>
         some (.ret (.tup [.agg w2_142, .agg w3_144]), h_139))
        (
         obind (ldRow h_130 6 (newP h_115)) fun t74 =>
         obind (stRow h_130 6 t74 (newP h_2)) fun h_147 =>
         obind (stRow h_147 2 ([.int .i64 0, .int .i64 0] : List AV) (newP h_4)) fun h_149 =>
         obind (ldRow h_149 6 (newP h_2)) fun w2_152 =>
         obind (ldRow h_149 2 (newP h_4)) fun w3_154 =>
         some (.ret (.tup [.agg w2_152, .agg w3_154]), h_149))) fun j70 =>
       ifB t63
       (
        j70 true h_125)
       (
        obind (fldP 1 v1) fun t66 =>
        obind (ldCell h_125 t66) fun v67 =>
        obind (avStr v67) fun t67 =>
        lett (decide (t60 < (lenS t67))) fun (t69 : Bool) =>
        j70 t69 h_125)))))) fun j21 =>
  ifB t16
  (
   obind (fldP 0 v1) fun t18 =>
   obind (ldCell h_14 t18) fun v19 =>
   obind (avInt .i64 v19) fun t19 =>
   lett ((t19 : Int) != 3) fun (t20 : Bool) =>
   j21 t20 h_14)
  (
   j21 false h_14)) fun j16 =>
 ifB t11
 (
  obind (fldP 0 v1) fun t13 =>
  obind (ldCell h_6 t13) fun v14 =>
  obind (avInt .i64 v14) fun t14 =>
  lett ((t14 : Int) != 2) fun (t15 : Bool) =>
  j16 t15 h_6)
 (
  j16 false h_6)
theorem ref09_Tree_ok {call : CallF} (hc : SaysAll Pg call) {n : Nat} {t0 : List AV} {h : AHeap} {rR : ARes} {hR : AHeap} (z : ref09_Tree call n t0 h = some (rR, hR)) : Says Pg 22 [.agg t0] h rR hR := by
 unfold ref09_Tree at z
 refine says_of (fn := Try.f22) Try.func22 (c := codeOf Try.f22) (by kernel_rfl) (by kernel_rfl) (fun w0 m0 => ?_)
 refine W.weaken (l' := [(0, .agg t0)]) (Fr.c Fr.n) ?_
 refine W.s (fun _ n1 _ _ p1 => ?_)
 refine W.r ?_
 replace z := outK_some z; obtain ⟨v1, h_2, e3, z⟩ := z
 refine WL.b (some 1) v1 h_2 e3 ?_
 replace z := lS z; obtain ⟨h_4, e5, z⟩ := z
 refine WL.val (d := (some 2)) (v := (newP h_2)) (h' := h_4) (by kernel_rfl) (by kernel_rfl) (val_ofH e5 (by kernel_rfl)) ?_
 replace z := lS z; obtain ⟨h_6, e7, z⟩ := z
 refine WL.val (d := (some 3)) (v := (newP h_4)) (h' := h_6) (by kernel_rfl) (by kernel_rfl) (val_ofH e7 (by kernel_rfl)) ?_
 refine WL.n ?_
 refine Go.weaken (l' := [(1, v1), (2, newP h_2), (3, newP h_4)]) (Fr.c (Fr.c (Fr.c Fr.n))) ?_
 refine n1 ?_
 refine W.s (fun _ n8 _ q8 _ => ?_)
 refine W.s (fun K9 n9 _ _ _ => ?_)
 refine W.r ?_
 replace z := oS z; obtain ⟨t9, e10, z⟩ := z
 refine WL.b (some 9) t9 h_6 (field_ptr (P := Pg) (h := h_6) (s := 35) (f := 0) (by kernel_rfl) e10) ?_
 replace z := oS z; obtain ⟨v10, e11, z⟩ := z
 replace z := oS z; obtain ⟨t10, c12, z⟩ := z
 have c12 := avInt_some c12
 subst c12
 refine WL.b (some 10) (.int .i64 t10) h_6 (load_cell (P := Pg) (h := h_6) (t := 3) (by kernel_rfl) e11) ?_
 replace z := lS z; obtain ⟨t11, e13, z⟩ := z
 refine WL.val (d := (some 11)) (v := .bool t11) (h' := h_6) (by kernel_rfl) (by kernel_rfl) (val_of AV.bool e13 (by kernel_rfl)) ?_
 refine WL.a (some 12) (.bool t11) h_6 ?_
 replace z := lS z; obtain ⟨j16, e15, z⟩ := z
 have J16 : ∀ (t16 : Bool) (h_14 : AHeap), j16 t16 h_14 = some (rR, hR) → WL Pg w0 m0 (Func.ntmps Try.f22) (Code.ops (Code.p1 (Code.p1 (Code.p2 (codeOf Try.f22))))) 8 K9 [(1, v1), (2, newP h_2), (3, newP h_4), (16, .bool t16)] [] h_14 := by
  intro t16 h_14 z
  rw [e15] at z
  refine WL.a (some 17) (.bool t16) h_14 ?_
  replace z := lS z; obtain ⟨j21, e18, z⟩ := z
  have J19 : ∀ (t21 : Bool) (h_17 : AHeap), j21 t21 h_17 = some (rR, hR) → WL Pg w0 m0 (Func.ntmps Try.f22) (Code.ops (Code.p1 (Code.p1 (Code.p2 (codeOf Try.f22))))) 13 K9 [(1, v1), (2, newP h_2), (3, newP h_4), (21, .bool t21)] [] h_17 := by
   intro t21 h_17 z
   rw [e18] at z
   refine WL.n ?_
   refine Go.weaken (l' := [(1, v1), (2, newP h_2), (3, newP h_4), (21, .bool t21)]) (Fr.c (Fr.c (Fr.c (Fr.c Fr.n)))) ?_
   refine n9 ?_
   cases t21 with
   | true =>
    replace z := ifB_t z
    refine W.t ?_
    refine W.s (fun _ n20 _ _ _ => ?_)
    refine W.r ?_
    refine WL.a (some 22) (.agg ([.int .i64 0, .int .u64 0, .int .u64 0, .int .u64 0, .int .u64 0, .nsl] : List AV)) h_17 ?_
    refine WL.a (some 23) (.agg ([.int .i64 2, .int .i64 0] : List AV)) h_17 ?_
    replace z := oS z; obtain ⟨h_21, e22, z⟩ := z
    refine WL.e h_21 (store_row (P := Pg) (h := h_17) (t := 41) (v := (.agg ([.int .i64 0, .int .u64 0, .int .u64 0, .int .u64 0, .int .u64 0, .nsl] : List AV))) (by kernel_rfl) (by kernel_rfl) e22) ?_
    replace z := oS z; obtain ⟨h_23, e24, z⟩ := z
    refine WL.e h_23 (store_row (P := Pg) (h := h_21) (t := 27) (v := (.agg ([.int .i64 2, .int .i64 0] : List AV))) (by kernel_rfl) (by kernel_rfl) e24) ?_
    refine WL.n ?_
    refine Go.weaken (l' := [(2, newP h_2), (3, newP h_4)]) (Fr.c (Fr.c Fr.n)) ?_
    refine n20 ?_
    refine W.ret (by kernel_rfl) ?_
    refine q8 ?_
    replace z := oS z; obtain ⟨w2, e25, z⟩ := z
    replace z := oS z; obtain ⟨w3, e26, z⟩ := z
    obtain ⟨z, hF2⟩ := ret_inj z; subst z; subst hF2
    exact leave_of (rs := [.cell 2 41, .cell 3 27]) (vs := [.agg w2, .agg w3]) (by kernel_rfl) (res_cell (by kernel_rfl) (load_row (P := Pg) (h := h_23) (t := 41) (by kernel_rfl) (by kernel_rfl) e25) (res_cell (by kernel_rfl) (load_row (P := Pg) (h := h_23) (t := 27) (by kernel_rfl) (by kernel_rfl) e26) res_nil)) (by kernel_rfl)
   | false =>
    replace z := ifB_f z
    refine W.f ?_
    refine W.skip (by kernel_rfl) ?_
    refine n8 ?_
    refine W.s (fun _ n27 _ q27 _ => ?_)
    refine W.s (fun _ n28 _ _ _ => ?_)
    refine W.r ?_
    replace z := oS z; obtain ⟨t24, e29, z⟩ := z
    refine WL.b (some 24) t24 h_17 (field_ptr (P := Pg) (h := h_17) (s := 35) (f := 1) (by kernel_rfl) e29) ?_
    replace z := oS z; obtain ⟨v25, e30, z⟩ := z
    replace z := oS z; obtain ⟨t25, c31, z⟩ := z
    have c31 := avStr_some c31
    subst c31
    refine WL.b (some 25) (strA t25) h_17 (load_cell (P := Pg) (h := h_17) (t := 9) (by kernel_rfl) e30) ?_
    refine WL.a (some 26) (.int .i64 (lenS t25)) h_17 ?_
    replace z := lS z; obtain ⟨t27, e32, z⟩ := z
    refine WL.val (d := (some 27)) (v := .bool t27) (h' := h_17) (by kernel_rfl) (by kernel_rfl) (val_of AV.bool e32 (by kernel_rfl)) ?_
    refine WL.n ?_
    refine Go.weaken (l' := [(1, v1), (2, newP h_2), (3, newP h_4), (27, .bool t27)]) (Fr.c (Fr.c (Fr.c (Fr.c Fr.n)))) ?_
    refine n28 ?_
    cases t27 with
    | true =>
     replace z := ifB_t z
     refine W.t ?_
     refine W.s (fun _ n33 _ _ _ => ?_)
     refine W.r ?_
     refine WL.a (some 28) (.agg ([.int .i64 0, .int .u64 0, .int .u64 0, .int .u64 0, .int .u64 0, .nsl] : List AV)) h_17 ?_
     refine WL.a (some 29) (.agg ([.int .i64 3, .int .i64 64] : List AV)) h_17 ?_
     replace z := oS z; obtain ⟨h_34, e35, z⟩ := z
     refine WL.e h_34 (store_row (P := Pg) (h := h_17) (t := 41) (v := (.agg ([.int .i64 0, .int .u64 0, .int .u64 0, .int .u64 0, .int .u64 0, .nsl] : List AV))) (by kernel_rfl) (by kernel_rfl) e35) ?_
     replace z := oS z; obtain ⟨h_36, e37, z⟩ := z
     refine WL.e h_36 (store_row (P := Pg) (h := h_34) (t := 27) (v := (.agg ([.int .i64 3, .int .i64 64] : List AV))) (by kernel_rfl) (by kernel_rfl) e37) ?_
     refine WL.n ?_
     refine Go.weaken (l' := [(2, newP h_2), (3, newP h_4)]) (Fr.c (Fr.c Fr.n)) ?_
     refine n33 ?_
     refine W.ret (by kernel_rfl) ?_
     refine q27 ?_
     replace z := oS z; obtain ⟨w2_39, e38, z⟩ := z
     replace z := oS z; obtain ⟨w3_41, e40, z⟩ := z
     obtain ⟨z, hF2⟩ := ret_inj z; subst z; subst hF2
     exact leave_of (rs := [.cell 2 41, .cell 3 27]) (vs := [.agg w2_39, .agg w3_41]) (by kernel_rfl) (res_cell (by kernel_rfl) (load_row (P := Pg) (h := h_36) (t := 41) (by kernel_rfl) (by kernel_rfl) e38) (res_cell (by kernel_rfl) (load_row (P := Pg) (h := h_36) (t := 27) (by kernel_rfl) (by kernel_rfl) e40) res_nil)) (by kernel_rfl)
    | false =>
     replace z := ifB_f z
     refine W.f ?_
     refine W.skip (by kernel_rfl) ?_
     refine n27 ?_
     refine W.s (fun _ n42 _ q42 _ => ?_)
     refine W.s (fun _ n43 _ _ _ => ?_)
     refine W.r ?_
     replace z := oS z; obtain ⟨t30, e44, z⟩ := z
     refine WL.b (some 30) t30 h_17 (field_ptr (P := Pg) (h := h_17) (s := 35) (f := 0) (by kernel_rfl) e44) ?_
     replace z := oS z; obtain ⟨v31, e45, z⟩ := z
     replace z := oS z; obtain ⟨t31, c46, z⟩ := z
     have c46 := avInt_some c46
     subst c46
     refine WL.b (some 31) (.int .i64 t31) h_17 (load_cell (P := Pg) (h := h_17) (t := 3) (by kernel_rfl) e45) ?_
     replace z := lS z; obtain ⟨t32, e47, z⟩ := z
     refine WL.val (d := (some 32)) (v := .bool t32) (h' := h_17) (by kernel_rfl) (by kernel_rfl) (val_of AV.bool e47 (by kernel_rfl)) ?_
     refine WL.n ?_
     refine Go.weaken (l' := [(1, v1), (2, newP h_2), (3, newP h_4), (32, .bool t32)]) (Fr.c (Fr.c (Fr.c (Fr.c Fr.n)))) ?_
     refine n43 ?_
     cases t32 with
     | true =>
      replace z := ifB_t z
      refine W.t ?_
      refine W.s (fun _ n48 _ _ _ => ?_)
      refine W.r ?_
      replace z := oS z; obtain ⟨t33, e49, z⟩ := z
      refine WL.b (some 33) t33 h_17 (field_ptr (P := Pg) (h := h_17) (s := 35) (f := 1) (by kernel_rfl) e49) ?_
      replace z := oS z; obtain ⟨v34, e50, z⟩ := z
      replace z := oS z; obtain ⟨t34, c51, z⟩ := z
      have c51 := avStr_some c51
      subst c51
      refine WL.b (some 34) (strA t34) h_17 (load_cell (P := Pg) (h := h_17) (t := 9) (by kernel_rfl) e50) ?_
      replace z := callN_some z; obtain ⟨r35, h_52, e53, z⟩ := z
      replace z := oS z; obtain ⟨t35, c54, z⟩ := z
      have c54 := avAgg_some c54
      subst c54
      refine WL.c (hc.ok w0) (some 35) e53 ?_
      refine WL.a (some 36) (.agg ([.int .i64 0, .int .i64 0] : List AV)) h_52 ?_
      replace z := oS z; obtain ⟨h_55, e56, z⟩ := z
      refine WL.e h_55 (store_row (P := Pg) (h := h_52) (t := 41) (v := (.agg t35)) (by kernel_rfl) (by kernel_rfl) e56) ?_
      replace z := oS z; obtain ⟨h_57, e58, z⟩ := z
      refine WL.e h_57 (store_row (P := Pg) (h := h_55) (t := 27) (v := (.agg ([.int .i64 0, .int .i64 0] : List AV))) (by kernel_rfl) (by kernel_rfl) e58) ?_
      refine WL.n ?_
      refine Go.weaken (l' := [(2, newP h_2), (3, newP h_4)]) (Fr.c (Fr.c Fr.n)) ?_
      refine n48 ?_
      refine W.ret (by kernel_rfl) ?_
      refine q42 ?_
      replace z := oS z; obtain ⟨w2_60, e59, z⟩ := z
      replace z := oS z; obtain ⟨w3_62, e61, z⟩ := z
      obtain ⟨z, hF2⟩ := ret_inj z; subst z; subst hF2
      exact leave_of (rs := [.cell 2 41, .cell 3 27]) (vs := [.agg w2_60, .agg w3_62]) (by kernel_rfl) (res_cell (by kernel_rfl) (load_row (P := Pg) (h := h_57) (t := 41) (by kernel_rfl) (by kernel_rfl) e59) (res_cell (by kernel_rfl) (load_row (P := Pg) (h := h_57) (t := 27) (by kernel_rfl) (by kernel_rfl) e61) res_nil)) (by kernel_rfl)
     | false =>
      replace z := ifB_f z
      refine W.f ?_
      refine W.skip (by kernel_rfl) ?_
      refine n42 ?_
      refine W.s (fun _ n63 _ q63 _ => ?_)
      refine W.s (fun _ n64 _ _ _ => ?_)
      refine W.r ?_
      replace z := oS z; obtain ⟨t37, e65, z⟩ := z
      refine WL.b (some 37) t37 h_17 (field_ptr (P := Pg) (h := h_17) (s := 35) (f := 0) (by kernel_rfl) e65) ?_
      replace z := oS z; obtain ⟨v38, e66, z⟩ := z
      replace z := oS z; obtain ⟨t38, c67, z⟩ := z
      have c67 := avInt_some c67
      subst c67
      refine WL.b (some 38) (.int .i64 t38) h_17 (load_cell (P := Pg) (h := h_17) (t := 3) (by kernel_rfl) e66) ?_
      replace z := lS z; obtain ⟨t39, e68, z⟩ := z
      refine WL.val (d := (some 39)) (v := .bool t39) (h' := h_17) (by kernel_rfl) (by kernel_rfl) (val_of AV.bool e68 (by kernel_rfl)) ?_
      refine WL.n ?_
      refine Go.weaken (l' := [(1, v1), (2, newP h_2), (3, newP h_4), (39, .bool t39)]) (Fr.c (Fr.c (Fr.c (Fr.c Fr.n)))) ?_
      refine n64 ?_
      cases t39 with
      | true =>
       replace z := ifB_t z
       refine W.t ?_
       refine W.s (fun _ n69 _ _ _ => ?_)
       refine W.r ?_
       replace z := oS z; obtain ⟨t41, e70, z⟩ := z
       refine WL.b (some 41) t41 h_17 (field_ptr (P := Pg) (h := h_17) (s := 35) (f := 1) (by kernel_rfl) e70) ?_
       replace z := oS z; obtain ⟨v42, e71, z⟩ := z
       replace z := oS z; obtain ⟨t42, c72, z⟩ := z
       have c72 := avStr_some c72
       subst c72
       refine WL.b (some 42) (strA t42) h_17 (load_cell (P := Pg) (h := h_17) (t := 9) (by kernel_rfl) e71) ?_
       replace z := callN_some z; obtain ⟨r43, h_73, e74, z⟩ := z
       refine WL.c (hc.ok w0) (some 43) e74 ?_
       refine WL.a (some 40) r43 h_73 ?_
       replace z := oS z; obtain ⟨v44, e75, z⟩ := z
       replace z := oS z; obtain ⟨t44, c76, z⟩ := z
       have c76 := avAgg_some c76
       subst c76
       refine WL.b (some 44) (.agg t44) h_73 (extract_tup (h := h_73) e75) ?_
       replace z := oS z; obtain ⟨v45, e77, z⟩ := z
       replace z := oS z; obtain ⟨t45, c78, z⟩ := z
       have c78 := avBool_some c78
       subst c78
       refine WL.b (some 45) (.bool t45) h_73 (extract_tup (h := h_73) e77) ?_
       replace z := lS z; obtain ⟨h_79, e80, z⟩ := z
       refine WL.val (d := (some 4)) (v := (newP h_73)) (h' := h_79) (by kernel_rfl) (by kernel_rfl) (val_ofH e80 (by kernel_rfl)) ?_
       replace z := oS z; obtain ⟨h_81, e82, z⟩ := z
       refine WL.e h_81 (store_row (P := Pg) (h := h_79) (t := 41) (v := (.agg t44)) (by kernel_rfl) (by kernel_rfl) e82) ?_
       refine WL.a (some 5) (.bool t45) h_81 ?_
       refine WL.n ?_
       refine Go.weaken (l' := [(1, v1), (2, newP h_2), (3, newP h_4), (4, newP h_73), (5, .bool t45)]) (Fr.c (Fr.c (Fr.c (Fr.c (Fr.c Fr.n))))) ?_
       refine n69 ?_
       refine W.s (fun _ n83 _ q83 _ => ?_)
       refine W.s (fun _ n84 _ _ _ => ?_)
       refine W.r ?_
       refine WL.a (some 46) (.bool t45) h_81 ?_
       replace z := lS z; obtain ⟨t47, e85, z⟩ := z
       refine WL.val (d := (some 47)) (v := .bool t47) (h' := h_81) (by kernel_rfl) (by kernel_rfl) (val_of AV.bool e85 (by kernel_rfl)) ?_
       refine WL.n ?_
       refine Go.weaken (l' := [(1, v1), (2, newP h_2), (3, newP h_4), (4, newP h_73), (47, .bool t47)]) (Fr.c (Fr.c (Fr.c (Fr.c (Fr.c Fr.n))))) ?_
       refine n84 ?_
       cases t47 with
       | true =>
        replace z := ifB_t z
        refine W.t ?_
        refine W.s (fun _ n86 _ _ _ => ?_)
        refine W.r ?_
        refine WL.a (some 48) (.agg ([.int .i64 0, .int .u64 0, .int .u64 0, .int .u64 0, .int .u64 0, .nsl] : List AV)) h_81 ?_
        replace z := oS z; obtain ⟨t49, e87, z⟩ := z
        refine WL.b (some 49) t49 h_81 (field_ptr (P := Pg) (h := h_81) (s := 35) (f := 1) (by kernel_rfl) e87) ?_
        replace z := oS z; obtain ⟨v50, e88, z⟩ := z
        replace z := oS z; obtain ⟨t50, c89, z⟩ := z
        have c89 := avStr_some c89
        subst c89
        refine WL.b (some 50) (strA t50) h_81 (load_cell (P := Pg) (h := h_81) (t := 9) (by kernel_rfl) e88) ?_
        refine WL.a (some 51) (.int .i64 (lenS t50)) h_81 ?_
        replace z := callN_some z; obtain ⟨r52, h_90, e91, z⟩ := z
        replace z := oS z; obtain ⟨t52, c92, z⟩ := z
        have c92 := avAgg_some c92
        subst c92
        refine WL.c (hc.ok w0) (some 52) e91 ?_
        replace z := oS z; obtain ⟨h_93, e94, z⟩ := z
        refine WL.e h_93 (store_row (P := Pg) (h := h_90) (t := 41) (v := (.agg ([.int .i64 0, .int .u64 0, .int .u64 0, .int .u64 0, .int .u64 0, .nsl] : List AV))) (by kernel_rfl) (by kernel_rfl) e94) ?_
        replace z := oS z; obtain ⟨h_95, e96, z⟩ := z
        refine WL.e h_95 (store_row (P := Pg) (h := h_93) (t := 27) (v := (.agg t52)) (by kernel_rfl) (by kernel_rfl) e96) ?_
        refine WL.n ?_
        refine Go.weaken (l' := [(2, newP h_2), (3, newP h_4)]) (Fr.c (Fr.c Fr.n)) ?_
        refine n86 ?_
        refine W.ret (by kernel_rfl) ?_
        refine q83 ?_
        refine q63 ?_
        replace z := oS z; obtain ⟨w2_98, e97, z⟩ := z
        replace z := oS z; obtain ⟨w3_100, e99, z⟩ := z
        obtain ⟨z, hF2⟩ := ret_inj z; subst z; subst hF2
        exact leave_of (rs := [.cell 2 41, .cell 3 27]) (vs := [.agg w2_98, .agg w3_100]) (by kernel_rfl) (res_cell (by kernel_rfl) (load_row (P := Pg) (h := h_95) (t := 41) (by kernel_rfl) (by kernel_rfl) e97) (res_cell (by kernel_rfl) (load_row (P := Pg) (h := h_95) (t := 27) (by kernel_rfl) (by kernel_rfl) e99) res_nil)) (by kernel_rfl)
       | false =>
        replace z := ifB_f z
        refine W.f ?_
        refine W.skip (by kernel_rfl) ?_
        refine n83 ?_
        refine W.s (fun _ n101 _ _ _ => ?_)
        refine W.r ?_
        replace z := oS z; obtain ⟨t53, e102, z⟩ := z
        refine WL.b (some 53) (.agg t53) h_81 (load_row (P := Pg) (h := h_81) (t := 41) (by kernel_rfl) (by kernel_rfl) e102) ?_
        refine WL.a (some 54) (.agg ([.int .i64 0, .int .i64 0] : List AV)) h_81 ?_
        replace z := oS z; obtain ⟨h_103, e104, z⟩ := z
        refine WL.e h_103 (store_row (P := Pg) (h := h_81) (t := 41) (v := (.agg t53)) (by kernel_rfl) (by kernel_rfl) e104) ?_
        replace z := oS z; obtain ⟨h_105, e106, z⟩ := z
        refine WL.e h_105 (store_row (P := Pg) (h := h_103) (t := 27) (v := (.agg ([.int .i64 0, .int .i64 0] : List AV))) (by kernel_rfl) (by kernel_rfl) e106) ?_
        refine WL.n ?_
        refine Go.weaken (l' := [(2, newP h_2), (3, newP h_4)]) (Fr.c (Fr.c Fr.n)) ?_
        refine n101 ?_
        refine W.ret (by kernel_rfl) ?_
        refine q63 ?_
        replace z := oS z; obtain ⟨w2_108, e107, z⟩ := z
        replace z := oS z; obtain ⟨w3_110, e109, z⟩ := z
        obtain ⟨z, hF2⟩ := ret_inj z; subst z; subst hF2
        exact leave_of (rs := [.cell 2 41, .cell 3 27]) (vs := [.agg w2_108, .agg w3_110]) (by kernel_rfl) (res_cell (by kernel_rfl) (load_row (P := Pg) (h := h_105) (t := 41) (by kernel_rfl) (by kernel_rfl) e107) (res_cell (by kernel_rfl) (load_row (P := Pg) (h := h_105) (t := 27) (by kernel_rfl) (by kernel_rfl) e109) res_nil)) (by kernel_rfl)
      | false =>
       replace z := ifB_f z
       refine W.f ?_
       refine W.skip (by kernel_rfl) ?_
       refine n63 ?_
       refine W.s (fun _ n111 _ _ _ => ?_)
       refine W.r ?_
       replace z := oS z; obtain ⟨t56, e112, z⟩ := z
       refine WL.b (some 56) t56 h_17 (field_ptr (P := Pg) (h := h_17) (s := 35) (f := 1) (by kernel_rfl) e112) ?_
       replace z := oS z; obtain ⟨v57, e113, z⟩ := z
       replace z := oS z; obtain ⟨t57, c114, z⟩ := z
       have c114 := avStr_some c114
       subst c114
       refine WL.b (some 57) (strA t57) h_17 (load_cell (P := Pg) (h := h_17) (t := 9) (by kernel_rfl) e113) ?_
       replace z := callN_some z; obtain ⟨r58, h_115, e116, z⟩ := z
       refine WL.c (hc.ok w0) (some 58) e116 ?_
       refine WL.a (some 55) r58 h_115 ?_
       replace z := oS z; obtain ⟨v59, e117, z⟩ := z
       replace z := oS z; obtain ⟨t59, c118, z⟩ := z
       have c118 := avAgg_some c118
       subst c118
       refine WL.b (some 59) (.agg t59) h_115 (extract_tup (h := h_115) e117) ?_
       replace z := oS z; obtain ⟨v60, e119, z⟩ := z
       replace z := oS z; obtain ⟨t60, c120, z⟩ := z
       have c120 := avInt_some c120
       subst c120
       refine WL.b (some 60) (.int .i64 t60) h_115 (extract_tup (h := h_115) e119) ?_
       replace z := oS z; obtain ⟨v61, e121, z⟩ := z
       replace z := oS z; obtain ⟨t61, c122, z⟩ := z
       have c122 := avBool_some c122
       subst c122
       refine WL.b (some 61) (.bool t61) h_115 (extract_tup (h := h_115) e121) ?_
       replace z := lS z; obtain ⟨h_123, e124, z⟩ := z
       refine WL.val (d := (some 6)) (v := (newP h_115)) (h' := h_123) (by kernel_rfl) (by kernel_rfl) (val_ofH e124 (by kernel_rfl)) ?_
       replace z := oS z; obtain ⟨h_125, e126, z⟩ := z
       refine WL.e h_125 (store_row (P := Pg) (h := h_123) (t := 41) (v := (.agg t59)) (by kernel_rfl) (by kernel_rfl) e126) ?_
       refine WL.a (some 7) (.int .i64 t60) h_125 ?_
       refine WL.a (some 8) (.bool t61) h_125 ?_
       refine WL.n ?_
       refine Go.weaken (l' := [(1, v1), (2, newP h_2), (3, newP h_4), (6, newP h_115), (7, .int .i64 t60), (8, .bool t61)]) (Fr.c (Fr.c (Fr.c (Fr.c (Fr.c (Fr.c Fr.n)))))) ?_
       refine n111 ?_
       refine W.s (fun _ n127 _ q127 _ => ?_)
       refine W.s (fun K128 n128 _ _ _ => ?_)
       refine W.r ?_
       refine WL.a (some 62) (.bool t61) h_125 ?_
       replace z := lS z; obtain ⟨t63, e129, z⟩ := z
       refine WL.val (d := (some 63)) (v := .bool t63) (h' := h_125) (by kernel_rfl) (by kernel_rfl) (val_of AV.bool e129 (by kernel_rfl)) ?_
       refine WL.a (some 64) (.bool t63) h_125 ?_
       replace z := lS z; obtain ⟨j70, e131, z⟩ := z
       have J132 : ∀ (t70 : Bool) (h_130 : AHeap), j70 t70 h_130 = some (rR, hR) → WL Pg w0 m0 (Func.ntmps Try.f22) (Code.ops (Code.p1 (Code.p1 (Code.p2 (Code.p2 (Code.p2 (Code.p2 (Code.p2 (Code.p2 (codeOf Try.f22)))))))))) 9 K128 [(2, newP h_2), (3, newP h_4), (6, newP h_115), (7, .int .i64 t60), (70, .bool t70)] [] h_130 := by
        intro t70 h_130 z
        rw [e131] at z
        refine WL.n ?_
        refine Go.weaken (l' := [(2, newP h_2), (3, newP h_4), (6, newP h_115), (7, .int .i64 t60), (70, .bool t70)]) (Fr.c (Fr.c (Fr.c (Fr.c (Fr.c Fr.n))))) ?_
        refine n128 ?_
        cases t70 with
        | true =>
         replace z := ifB_t z
         refine W.t ?_
         refine W.s (fun _ n133 _ _ _ => ?_)
         refine W.r ?_
         refine WL.a (some 71) (.agg ([.int .i64 0, .int .u64 0, .int .u64 0, .int .u64 0, .int .u64 0, .nsl] : List AV)) h_130 ?_
         refine WL.a (some 72) (.int .i64 t60) h_130 ?_
         replace z := callN_some z; obtain ⟨r73, h_134, e135, z⟩ := z
         replace z := oS z; obtain ⟨t73, c136, z⟩ := z
         have c136 := avAgg_some c136
         subst c136
         refine WL.c (hc.ok w0) (some 73) e135 ?_
         replace z := oS z; obtain ⟨h_137, e138, z⟩ := z
         refine WL.e h_137 (store_row (P := Pg) (h := h_134) (t := 41) (v := (.agg ([.int .i64 0, .int .u64 0, .int .u64 0, .int .u64 0, .int .u64 0, .nsl] : List AV))) (by kernel_rfl) (by kernel_rfl) e138) ?_
         replace z := oS z; obtain ⟨h_139, e140, z⟩ := z
         refine WL.e h_139 (store_row (P := Pg) (h := h_137) (t := 27) (v := (.agg t73)) (by kernel_rfl) (by kernel_rfl) e140) ?_
         refine WL.n ?_
         refine Go.weaken (l' := [(2, newP h_2), (3, newP h_4)]) (Fr.c (Fr.c Fr.n)) ?_
         refine n133 ?_
         refine W.ret (by kernel_rfl) ?_
         refine q127 ?_
         replace z := oS z; obtain ⟨w2_142, e141, z⟩ := z
         replace z := oS z; obtain ⟨w3_144, e143, z⟩ := z
         obtain ⟨z, hF2⟩ := ret_inj z; subst z; subst hF2
         exact leave_of (rs := [.cell 2 41, .cell 3 27]) (vs := [.agg w2_142, .agg w3_144]) (by kernel_rfl) (res_cell (by kernel_rfl) (load_row (P := Pg) (h := h_139) (t := 41) (by kernel_rfl) (by kernel_rfl) e141) (res_cell (by kernel_rfl) (load_row (P := Pg) (h := h_139) (t := 27) (by kernel_rfl) (by kernel_rfl) e143) res_nil)) (by kernel_rfl)
        | false =>
         replace z := ifB_f z
         refine W.f ?_
         refine W.skip (by kernel_rfl) ?_
         refine n127 ?_
         refine W.s (fun _ n145 _ _ _ => ?_)
         refine W.r ?_
         replace z := oS z; obtain ⟨t74, e146, z⟩ := z
         refine WL.b (some 74) (.agg t74) h_130 (load_row (P := Pg) (h := h_130) (t := 41) (by kernel_rfl) (by kernel_rfl) e146) ?_
         refine WL.a (some 75) (.agg ([.int .i64 0, .int .i64 0] : List AV)) h_130 ?_
         replace z := oS z; obtain ⟨h_147, e148, z⟩ := z
         refine WL.e h_147 (store_row (P := Pg) (h := h_130) (t := 41) (v := (.agg t74)) (by kernel_rfl) (by kernel_rfl) e148) ?_
         replace z := oS z; obtain ⟨h_149, e150, z⟩ := z
         refine WL.e h_149 (store_row (P := Pg) (h := h_147) (t := 27) (v := (.agg ([.int .i64 0, .int .i64 0] : List AV))) (by kernel_rfl) (by kernel_rfl) e150) ?_
         refine WL.n ?_
         refine Go.weaken (l' := [(2, newP h_2), (3, newP h_4)]) (Fr.c (Fr.c Fr.n)) ?_
         refine n145 ?_
         refine W.ret (by kernel_rfl) ?_
         replace z := oS z; obtain ⟨w2_152, e151, z⟩ := z
         replace z := oS z; obtain ⟨w3_154, e153, z⟩ := z
         obtain ⟨z, hF2⟩ := ret_inj z; subst z; subst hF2
         exact leave_of (rs := [.cell 2 41, .cell 3 27]) (vs := [.agg w2_152, .agg w3_154]) (by kernel_rfl) (res_cell (by kernel_rfl) (load_row (P := Pg) (h := h_149) (t := 41) (by kernel_rfl) (by kernel_rfl) e151) (res_cell (by kernel_rfl) (load_row (P := Pg) (h := h_149) (t := 27) (by kernel_rfl) (by kernel_rfl) e153) res_nil)) (by kernel_rfl)
       cases t63 with
       | true =>
        replace z := ifB_t z
        refine WL.o (some 65) ?_
        refine WL.o (some 66) ?_
        refine WL.o (some 67) ?_
        refine WL.o (some 68) ?_
        refine WL.o (some 69) ?_
        refine WL.a (some 70) (.bool true) h_125 ?_
        exact WL.weaken (Fr.c (Fr.c (Fr.c (Fr.c (Fr.c Fr.n))))) (J132 _ _ z)
       | false =>
        replace z := ifB_f z
        refine WL.a (some 65) (.int .i64 t60) h_125 ?_
        replace z := oS z; obtain ⟨t66, e155, z⟩ := z
        refine WL.b (some 66) t66 h_125 (field_ptr (P := Pg) (h := h_125) (s := 35) (f := 1) (by kernel_rfl) e155) ?_
        replace z := oS z; obtain ⟨v67, e156, z⟩ := z
        replace z := oS z; obtain ⟨t67, c157, z⟩ := z
        have c157 := avStr_some c157
        subst c157
        refine WL.b (some 67) (strA t67) h_125 (load_cell (P := Pg) (h := h_125) (t := 9) (by kernel_rfl) e156) ?_
        refine WL.a (some 68) (.int .i64 (lenS t67)) h_125 ?_
        replace z := lS z; obtain ⟨t69, e158, z⟩ := z
        refine WL.val (d := (some 69)) (v := .bool t69) (h' := h_125) (by kernel_rfl) (by kernel_rfl) (val_of AV.bool e158 (by kernel_rfl)) ?_
        refine WL.a (some 70) (.bool t69) h_125 ?_
        exact WL.weaken (Fr.c (Fr.c (Fr.c (Fr.c (Fr.c Fr.n))))) (J132 _ _ z)
  cases t16 with
  | true =>
   replace z := ifB_t z
   replace z := oS z; obtain ⟨t18, e159, z⟩ := z
   refine WL.b (some 18) t18 h_14 (field_ptr (P := Pg) (h := h_14) (s := 35) (f := 0) (by kernel_rfl) e159) ?_
   replace z := oS z; obtain ⟨v19, e160, z⟩ := z
   replace z := oS z; obtain ⟨t19, c161, z⟩ := z
   have c161 := avInt_some c161
   subst c161
   refine WL.b (some 19) (.int .i64 t19) h_14 (load_cell (P := Pg) (h := h_14) (t := 3) (by kernel_rfl) e160) ?_
   replace z := lS z; obtain ⟨t20, e162, z⟩ := z
   refine WL.val (d := (some 20)) (v := .bool t20) (h' := h_14) (by kernel_rfl) (by kernel_rfl) (val_of AV.bool e162 (by kernel_rfl)) ?_
   refine WL.a (some 21) (.bool t20) h_14 ?_
   exact WL.weaken (Fr.c (Fr.c (Fr.c (Fr.c Fr.n)))) (J19 _ _ z)
  | false =>
   replace z := ifB_f z
   refine WL.o (some 18) ?_
   refine WL.o (some 19) ?_
   refine WL.o (some 20) ?_
   refine WL.a (some 21) (.bool false) h_14 ?_
   exact WL.weaken (Fr.c (Fr.c (Fr.c (Fr.c Fr.n)))) (J19 _ _ z)
 cases t11 with
 | true =>
  replace z := ifB_t z
  replace z := oS z; obtain ⟨t13, e163, z⟩ := z
  refine WL.b (some 13) t13 h_6 (field_ptr (P := Pg) (h := h_6) (s := 35) (f := 0) (by kernel_rfl) e163) ?_
  replace z := oS z; obtain ⟨v14, e164, z⟩ := z
  replace z := oS z; obtain ⟨t14, c165, z⟩ := z
  have c165 := avInt_some c165
  subst c165
  refine WL.b (some 14) (.int .i64 t14) h_6 (load_cell (P := Pg) (h := h_6) (t := 3) (by kernel_rfl) e164) ?_
  replace z := lS z; obtain ⟨t15, e166, z⟩ := z
  refine WL.val (d := (some 15)) (v := .bool t15) (h' := h_6) (by kernel_rfl) (by kernel_rfl) (val_of AV.bool e166 (by kernel_rfl)) ?_
  refine WL.a (some 16) (.bool t15) h_6 ?_
  exact WL.weaken (Fr.c (Fr.c (Fr.c (Fr.c Fr.n)))) (J16 _ _ z)
 | false =>
  replace z := ifB_f z
  refine WL.o (some 13) ?_
  refine WL.o (some 14) ?_
  refine WL.o (some 15) ?_
  refine WL.a (some 16) (.bool false) h_6 ?_
  exact WL.weaken (Fr.c (Fr.c (Fr.c (Fr.c Fr.n)))) (J16 _ _ z)
noncomputable def ref09_Tree_fn (call : CallF) (n : Nat) : FnT := fun args h => match args with
 | [x0] => obind (avAgg x0) fun t0 => ref09_Tree call n t0 h
 | _ => none
set_option maxRecDepth 100000 in
theorem ref09_Tree_fn_eq (call : CallF) (n : Nat) (t0 : List AV) (h : AHeap) : ref09_Tree_fn call n [.agg t0] h = ref09_Tree call n t0 h :=
 (Eq.trans (obind_eq (fun t0 => ref09_Tree call n t0 h) (avAgg_agg t0)) rfl)
theorem ref09_Tree_holds {call : CallF} (hc : SaysAll Pg call) (n : Nat) : Holds Pg 22 (ref09_Tree_fn call n) := by
 intro args h r h2 e
 unfold ref09_Tree_fn at e
 split at e
 ·replace e := oS e; obtain ⟨t0, c0, e⟩ := e; have c0 := avAgg_some c0; subst c0
  exact ref09_Tree_ok hc e
 ·cases e
noncomputable def ref09_literal_L0b (call : CallF) (t0 : Bytes) (k8 : AV → AHeap → R) (self : AV → Int → AHeap → R) (t3_18 : AV) (t4 : Int) (h_19 : AHeap) : R :=
 lett (decide (t4 < (lenS t0))) fun (t8 : Bool) =>
 ifB t8
 (
  obind (idxS t0 t4) fun t14 =>
  callN (call 64 [.int .u8 t14] h_19) fun r15 h_26 =>
  obind (avAgg r15) fun t15 =>
  outK (bldSl Pg h_26 39 1 [(0, .agg t15)]) fun v16 h_29 =>
  outK (opAppend Pg h_29 39 39 t3_18 v16) fun v17 h_31 =>
  lett (IntKind.i64.wrap (t4 + 1)) fun (t10 : Int) =>
  self v17 t10 h_31)
 (
  k8 t3_18 h_19)
noncomputable def ref09_literal_L0 (call : CallF) (t0 : Bytes) (k8 : AV → AHeap → R) : Nat → AV → Int → AHeap → R := iterR (fun _ _ _ => none) (ref09_literal_L0b call t0 k8)
theorem ref09_literal_L0_s (call : CallF) (t0 : Bytes) (k8 : AV → AHeap → R) (m : Nat) : ref09_literal_L0 call t0 k8 (m + 1) = ref09_literal_L0b call t0 k8 (ref09_literal_L0 call t0 k8 m) := rfl
noncomputable def ref09_literal (call : CallF) (n : Nat) (t0 : Bytes) (h : AHeap) : R :=
 lett (newH h 41 [.int .i64 0, .int .u64 0, .int .u64 0, .int .u64 0, .int .u64 0, .nsl]) fun h_2 =>
 lett (fun (t3 : AV) (h_9 : AHeap) =>
  callN (call 65 [.int .i64 3, t3] h_9) fun r19 h_11 =>
  obind (avAgg r19) fun t19 =>
  obind (stRow h_11 6 t19 (newP h)) fun h_14 =>
  obind (ldRow h_14 6 (newP h)) fun w2 =>
  some (.ret (.agg w2), h_14)) fun k8 =>
 ref09_literal_L0 call t0 k8 n AV.nsl 0 h_2
theorem ref09_literal_ok {call : CallF} (hc : SaysAll Pg call) {n : Nat} {t0 : Bytes} {h : AHeap} {rR : ARes} {hR : AHeap} (z : ref09_literal call n t0 h = some (rR, hR)) : Says Pg 41 [strA t0] h rR hR := by
 unfold ref09_literal at z
 refine says_of (fn := Try.f41) Try.func41 (c := codeOf Try.f41) (by kernel_rfl) (by kernel_rfl) (fun w0 m0 => ?_)
 refine W.weaken (l' := [(0, strA t0)]) (Fr.c Fr.n) ?_
 refine W.s (fun _ n1 _ _ _ => ?_)
 refine W.r ?_
 replace z := lS z; obtain ⟨h_2, e3, z⟩ := z
 refine WL.val (d := (some 2)) (v := (newP h)) (h' := h_2) (by kernel_rfl) (by kernel_rfl) (val_ofH e3 (by kernel_rfl)) ?_
 refine WL.n ?_
 refine Go.weaken (l' := [(0, strA t0), (2, newP h)]) (Fr.c (Fr.c Fr.n)) ?_
 refine n1 ?_
 refine W.s (fun _ n4 _ _ _ => ?_)
 refine W.r ?_
 refine WL.a (some 3) AV.nsl h_2 ?_
 refine WL.n ?_
 refine Go.weaken (l' := [(0, strA t0), (2, newP h), (3, AV.nsl)]) (Fr.c (Fr.c (Fr.c Fr.n))) ?_
 refine n4 ?_
 refine W.s (fun K5 n5 _ _ _ => ?_)
 refine W.s (fun _ n6 _ _ _ => ?_)
 refine W.r ?_
 refine WL.a (some 4) (.int .i64 0) h_2 ?_
 refine WL.n ?_
 refine Go.weaken (l' := [(0, strA t0), (2, newP h), (3, AV.nsl), (4, .int .i64 0)]) (Fr.c (Fr.c (Fr.c (Fr.c Fr.n)))) ?_
 refine n6 ?_
 replace z := lS z; obtain ⟨k8, e8, z⟩ := z
 have J8 : ∀ (t3 : AV) (h_9 : AHeap), k8 t3 h_9 = some (rR, hR) → Go w0 m0 (Func.ntmps Try.f41) (K5 .normal) [(2, newP h), (3, t3)] [] h_9 := by
  intro t3 h_9 z
  rw [e8] at z
  refine n5 ?_
  refine W.s (fun _ n10 _ _ _ => ?_)
  refine W.r ?_
  refine WL.a (some 18) t3 h_9 ?_
  replace z := callN_some z; obtain ⟨r19, h_11, e12, z⟩ := z
  replace z := oS z; obtain ⟨t19, c13, z⟩ := z
  have c13 := avAgg_some c13
  subst c13
  refine WL.c (hc.ok w0) (some 19) e12 ?_
  replace z := oS z; obtain ⟨h_14, e15, z⟩ := z
  refine WL.e h_14 (store_row (P := Pg) (h := h_11) (t := 41) (v := (.agg t19)) (by kernel_rfl) (by kernel_rfl) e15) ?_
  refine WL.n ?_
  refine Go.weaken (l' := [(2, newP h)]) (Fr.c Fr.n) ?_
  refine n10 ?_
  refine W.ret (by kernel_rfl) ?_
  replace z := oS z; obtain ⟨w2, e16, z⟩ := z
  obtain ⟨z, hF2⟩ := ret_inj z; subst z; subst hF2
  exact leave_of (rs := [.cell 2 41]) (vs := [.agg w2]) (by kernel_rfl) (res_cell (by kernel_rfl) (load_row (P := Pg) (h := h_14) (t := 41) (by kernel_rfl) (by kernel_rfl) e16) res_nil) (by kernel_rfl)
 refine W.blockK (by kernel_rfl) (fun K7 n7 s7 o7 q7 p7 => ?_)
 refine W.loopK (by kernel_rfl) (fun I17 K17 b17 n17 e17 q17 p17 => ?_)
 have L17 : ∀ (m : Nat) (t3_18 : AV) (t4 : Int) (h_19 : AHeap), ref09_literal_L0 call t0 k8 m t3_18 t4 h_19 = some (rR, hR) → Go w0 m0 (Func.ntmps Try.f41) I17 [(0, strA t0), (2, newP h), (3, t3_18), (4, .int .i64 t4)] [] h_19 := by
  intro m
  induction m with
  | zero => intro t3_18 t4 h_19 z; cases z
  | succ m ih17 =>
   intro t3_18 t4 h_19 z
   rw [ref09_literal_L0_s] at z; unfold ref09_literal_L0b at z
   refine b17 ?_
   refine W.s (fun _ n20 e20 _ _ => ?_)
   refine W.s (fun _ n21 _ _ _ => ?_)
   refine W.r ?_
   refine WL.a (some 5) (.int .i64 t4) h_19 ?_
   refine WL.a (some 6) (strA t0) h_19 ?_
   refine WL.a (some 7) (.int .i64 (lenS t0)) h_19 ?_
   replace z := lS z; obtain ⟨t8, e22, z⟩ := z
   refine WL.val (d := (some 8)) (v := .bool t8) (h' := h_19) (by kernel_rfl) (by kernel_rfl) (val_of AV.bool e22 (by kernel_rfl)) ?_
   refine WL.n ?_
   refine Go.weaken (l' := [(0, strA t0), (2, newP h), (3, t3_18), (4, .int .i64 t4), (8, .bool t8)]) (Fr.c (Fr.c (Fr.c (Fr.c (Fr.c Fr.n))))) ?_
   refine n21 ?_
   cases t8 with
   | true =>
    replace z := ifB_t z
    refine W.t ?_
    refine W.skip (by kernel_rfl) ?_
    refine n20 ?_
    refine W.s (fun _ n23 _ _ _ => ?_)
    refine W.blockK (by kernel_rfl) (fun K24 n24 s24 o24 q24 p24 => ?_)
    refine W.r ?_
    refine WL.a (some 11) t3_18 h_19 ?_
    refine WL.a (some 12) (strA t0) h_19 ?_
    refine WL.a (some 13) (.int .i64 t4) h_19 ?_
    replace z := oS z; obtain ⟨t14, e25, z⟩ := z
    refine WL.b (some 14) (.int .u8 t14) h_19 (index_str (P := Pg) (h := h_19) (t := 9) (k := .i64) (by kernel_rfl) e25) ?_
    replace z := callN_some z; obtain ⟨r15, h_26, e27, z⟩ := z
    replace z := oS z; obtain ⟨t15, c28, z⟩ := z
    have c28 := avAgg_some c28
    subst c28
    refine WL.c (hc.ok w0) (some 15) e27 ?_
    replace z := outK_some z; obtain ⟨v16, h_29, e30, z⟩ := z
    refine WL.b (some 16) v16 h_29 e30 ?_
    replace z := outK_some z; obtain ⟨v17, h_31, e32, z⟩ := z
    refine WL.b (some 17) v17 h_31 e32 ?_
    refine WL.a (some 3) v17 h_31 ?_
    refine WL.n ?_
    refine Go.weaken (l' := [(0, strA t0), (2, newP h), (3, v17), (4, .int .i64 t4)]) (Fr.c (Fr.c (Fr.c (Fr.c Fr.n)))) ?_
    refine n24 ?_
    refine n23 ?_
    refine W.r ?_
    refine WL.a (some 9) (.int .i64 t4) h_31 ?_
    replace z := lS z; obtain ⟨t10, e33, z⟩ := z
    refine WL.val (d := (some 10)) (v := .int .i64 t10) (h' := h_31) (by kernel_rfl) (by kernel_rfl) (val_of (AV.int .i64) e33 (by kernel_rfl)) ?_
    refine WL.a (some 4) (.int .i64 t10) h_31 ?_
    refine WL.n ?_
    refine Go.weaken (l' := [(0, strA t0), (2, newP h), (3, v17), (4, .int .i64 t10)]) (Fr.c (Fr.c (Fr.c (Fr.c Fr.n)))) ?_
    refine n17 ?_
    exact Go.weaken (Fr.c (Fr.c (Fr.c (Fr.c Fr.n)))) (ih17 _ _ _ z)
   | false =>
    replace z := ifB_f z
    refine W.f ?_
    refine W.exit (by kernel_rfl) ?_
    refine e20 ?_
    refine e17 ?_
    refine s7 (by kernel_rfl) ?_
    exact Go.weaken (Fr.c (Fr.c Fr.n)) (J8 _ _ z)
 exact Go.weaken (Fr.c (Fr.c (Fr.c (Fr.c Fr.n)))) (L17 _ _ _ _ z)
noncomputable def ref09_literal_fn (call : CallF) (n : Nat) : FnT := fun args h => match args with
 | [x0] => obind (avStr x0) fun t0 => ref09_literal call n t0 h
 | _ => none
set_option maxRecDepth 100000 in
theorem ref09_literal_fn_eq (call : CallF) (n : Nat) (t0 : Bytes) (h : AHeap) : ref09_literal_fn call n [strA t0] h = ref09_literal call n t0 h :=
 (Eq.trans (obind_eq (fun t0 => ref09_literal call n t0 h) (avStr_str t0)) rfl)
theorem ref09_literal_holds {call : CallF} (hc : SaysAll Pg call) (n : Nat) : Holds Pg 41 (ref09_literal_fn call n) := by
 intro args h r h2 e
 unfold ref09_literal_fn at e
 split at e
 ·replace e := oS e; obtain ⟨t0, c0, e⟩ := e; have c0 := avStr_some c0; subst c0
  exact ref09_literal_ok hc e
 ·cases e
noncomputable def ref09_glob_L0b (call : CallF) (t0 : Bytes) (h : AHeap) (k8 : AV → AHeap → R) (self : AV → Int → AHeap → R) (t4_18 : AV) (t5 : Int) (h_19 : AHeap) : R :=
 lett (decide (t5 < (lenS t0))) fun (t9 : Bool) =>
 ifB t9
 (
  obind (idxS t0 t5) fun t14 =>
  lett ((t14 : Int) == 92) fun (t15 : Bool) =>
  lett (fun (t22 : Bool) (h_29 : AHeap) =>
   ifB t22
   (
    obind (stRow h_29 6 ([.int .i64 0, .int .u64 0, .int .u64 0, .int .u64 0, .int .u64 0, .nsl] : List AV) (newP h)) fun h_33 =>
    obind (ldRow h_33 6 (newP h)) fun w2_36 =>
    some (.ret (.tup [.agg w2_36, .bool false]), h_33))
   (
    obind (idxS t0 t5) fun t34 =>
    lett ((t34 : Int) == 92) fun (t35 : Bool) =>
    lett (fun (t4_42 : AV) (t5_43 : Int) (h_44 : AHeap) =>
     lett (IntKind.i64.wrap (t5_43 + 1)) fun (t11 : Int) =>
     self t4_42 t11 h_44) fun k41 =>
    ifB t35
    (
     lett (IntKind.i64.wrap (t5 + 1)) fun (t39 : Int) =>
     obind (idxS t0 t39) fun t40 =>
     callN (call 64 [.int .u8 t40] h_29) fun r41 h_49 =>
     obind (avAgg r41) fun t41 =>
     outK (bldSl Pg h_49 39 1 [(0, .agg t41)]) fun v42 h_52 =>
     outK (opAppend Pg h_52 39 39 t4_18 v42) fun v43 h_54 =>
     lett (IntKind.i64.wrap (t5 + 1)) fun (t45 : Int) =>
     k41 v43 t45 h_54)
    (
     obind (idxS t0 t5) fun t49 =>
     lett ((t49 : Int) == 42) fun (t50 : Bool) =>
     lett (fun (t4_61 : AV) (h_62 : AHeap) =>
      k41 t4_61 t5 h_62) fun k60 =>
     ifB t50
     (
      callN (call 66 [] h_29) fun r52 h_63 =>
      obind (avAgg r52) fun t52 =>
      outK (bldSl Pg h_63 39 1 [(0, .agg t52)]) fun v53 h_66 =>
      obind (bldS Pg 41 [(0, .int .i64 5), (2, v53)]) fun t54 =>
      outK (bldSl Pg h_66 39 1 [(0, .agg t54)]) fun v55 h_69 =>
      outK (opAppend Pg h_69 39 39 t4_18 v55) fun v56 h_71 =>
      k60 v56 h_71)
     (
      obind (idxS t0 t5) fun t60 =>
      lett ((t60 : Int) == 63) fun (t61 : Bool) =>
      lett (fun (t4_77 : AV) (h_78 : AHeap) =>
       k60 t4_77 h_78) fun k76 =>
      ifB t61
      (
       callN (call 66 [] h_29) fun r63 h_79 =>
       obind (avAgg r63) fun t63 =>
       outK (bldSl Pg h_79 39 1 [(0, .agg t63)]) fun v64 h_82 =>
       outK (opAppend Pg h_82 39 39 t4_18 v64) fun v65 h_84 =>
       k76 v65 h_84)
      (
       obind (idxS t0 t5) fun t27 =>
       callN (call 64 [.int .u8 t27] h_29) fun r28 h_87 =>
       obind (avAgg r28) fun t28 =>
       outK (bldSl Pg h_87 39 1 [(0, .agg t28)]) fun v29 h_90 =>
       outK (opAppend Pg h_90 39 39 t4_18 v29) fun v30 h_92 =>
       k76 v30 h_92))))) fun j22 =>
  ifB t15
  (
   lett (IntKind.i64.wrap (t5 + 1)) fun (t18 : Int) =>
   lett ((t18 : Int) == (lenS t0)) fun (t21 : Bool) =>
   j22 t21 h_19)
  (
   j22 false h_19))
 (
  k8 t4_18 h_19)
noncomputable def ref09_glob_L0 (call : CallF) (t0 : Bytes) (h : AHeap) (k8 : AV → AHeap → R) : Nat → AV → Int → AHeap → R := iterR (fun _ _ _ => none) (ref09_glob_L0b call t0 h k8)
theorem ref09_glob_L0_s (call : CallF) (t0 : Bytes) (h : AHeap) (k8 : AV → AHeap → R) (m : Nat) : ref09_glob_L0 call t0 h k8 (m + 1) = ref09_glob_L0b call t0 h k8 (ref09_glob_L0 call t0 h k8 m) := rfl
noncomputable def ref09_glob (call : CallF) (n : Nat) (t0 : Bytes) (h : AHeap) : R :=
 lett (newH h 41 [.int .i64 0, .int .u64 0, .int .u64 0, .int .u64 0, .int .u64 0, .nsl]) fun h_2 =>
 lett (fun (t4 : AV) (h_9 : AHeap) =>
  callN (call 65 [.int .i64 3, t4] h_9) fun r67 h_11 =>
  obind (avAgg r67) fun t67 =>
  obind (stRow h_11 6 t67 (newP h)) fun h_14 =>
  obind (ldRow h_14 6 (newP h)) fun w2 =>
  some (.ret (.tup [.agg w2, .bool true]), h_14)) fun k8 =>
 ref09_glob_L0 call t0 h k8 n AV.nsl 0 h_2
theorem ref09_glob_ok {call : CallF} (hc : SaysAll Pg call) {n : Nat} {t0 : Bytes} {h : AHeap} {rR : ARes} {hR : AHeap} (z : ref09_glob call n t0 h = some (rR, hR)) : Says Pg 42 [strA t0] h rR hR := by
 unfold ref09_glob at z
 refine says_of (fn := Try.f42) Try.func42 (c := codeOf Try.f42) (by kernel_rfl) (by kernel_rfl) (fun w0 m0 => ?_)
 refine W.weaken (l' := [(0, strA t0)]) (Fr.c Fr.n) ?_
 refine W.s (fun _ n1 _ _ p1 => ?_)
 refine W.r ?_
 replace z := lS z; obtain ⟨h_2, e3, z⟩ := z
 refine WL.val (d := (some 2)) (v := (newP h)) (h' := h_2) (by kernel_rfl) (by kernel_rfl) (val_ofH e3 (by kernel_rfl)) ?_
 refine WL.a (some 3) (.bool false) h_2 ?_
 refine WL.n ?_
 refine Go.weaken (l' := [(0, strA t0), (2, newP h)]) (Fr.c (Fr.c Fr.n)) ?_
 refine n1 ?_
 refine W.s (fun _ n4 _ _ _ => ?_)
 refine W.r ?_
 refine WL.a (some 4) AV.nsl h_2 ?_
 refine WL.n ?_
 refine Go.weaken (l' := [(0, strA t0), (2, newP h), (4, AV.nsl)]) (Fr.c (Fr.c (Fr.c Fr.n))) ?_
 refine n4 ?_
 refine W.s (fun K5 n5 _ q5 _ => ?_)
 refine W.s (fun _ n6 _ _ _ => ?_)
 refine W.r ?_
 refine WL.a (some 5) (.int .i64 0) h_2 ?_
 refine WL.n ?_
 refine Go.weaken (l' := [(0, strA t0), (2, newP h), (4, AV.nsl), (5, .int .i64 0)]) (Fr.c (Fr.c (Fr.c (Fr.c Fr.n)))) ?_
 refine n6 ?_
 replace z := lS z; obtain ⟨k8, e8, z⟩ := z
 have J8 : ∀ (t4 : AV) (h_9 : AHeap), k8 t4 h_9 = some (rR, hR) → Go w0 m0 (Func.ntmps Try.f42) (K5 .normal) [(2, newP h), (4, t4)] [] h_9 := by
  intro t4 h_9 z
  rw [e8] at z
  refine n5 ?_
  refine W.s (fun _ n10 _ _ _ => ?_)
  refine W.r ?_
  refine WL.a (some 66) t4 h_9 ?_
  replace z := callN_some z; obtain ⟨r67, h_11, e12, z⟩ := z
  replace z := oS z; obtain ⟨t67, c13, z⟩ := z
  have c13 := avAgg_some c13
  subst c13
  refine WL.c (hc.ok w0) (some 67) e12 ?_
  replace z := oS z; obtain ⟨h_14, e15, z⟩ := z
  refine WL.e h_14 (store_row (P := Pg) (h := h_11) (t := 41) (v := (.agg t67)) (by kernel_rfl) (by kernel_rfl) e15) ?_
  refine WL.a (some 3) (.bool true) h_14 ?_
  refine WL.n ?_
  refine Go.weaken (l' := [(2, newP h), (3, .bool true)]) (Fr.c (Fr.c Fr.n)) ?_
  refine n10 ?_
  refine W.ret (by kernel_rfl) ?_
  replace z := oS z; obtain ⟨w2, e16, z⟩ := z
  obtain ⟨z, hF2⟩ := ret_inj z; subst z; subst hF2
  exact leave_of (rs := [.cell 2 41, .tmp 3]) (vs := [.agg w2, .bool true]) (by kernel_rfl) (res_cell (by kernel_rfl) (load_row (P := Pg) (h := h_14) (t := 41) (by kernel_rfl) (by kernel_rfl) e16) (res_tmp (by kernel_rfl) res_nil)) (by kernel_rfl)
 refine W.blockK (by kernel_rfl) (fun K7 n7 s7 o7 q7 p7 => ?_)
 refine W.loopK (by kernel_rfl) (fun I17 K17 b17 n17 e17 q17 p17 => ?_)
 have L17 : ∀ (m : Nat) (t4_18 : AV) (t5 : Int) (h_19 : AHeap), ref09_glob_L0 call t0 h k8 m t4_18 t5 h_19 = some (rR, hR) → Go w0 m0 (Func.ntmps Try.f42) I17 [(0, strA t0), (2, newP h), (4, t4_18), (5, .int .i64 t5)] [] h_19 := by
  intro m
  induction m with
  | zero => intro t4_18 t5 h_19 z; cases z
  | succ m ih17 =>
   intro t4_18 t5 h_19 z
   rw [ref09_glob_L0_s] at z; unfold ref09_glob_L0b at z
   refine b17 ?_
   refine W.s (fun _ n20 e20 _ _ => ?_)
   refine W.s (fun _ n21 _ _ _ => ?_)
   refine W.r ?_
   refine WL.a (some 6) (.int .i64 t5) h_19 ?_
   refine WL.a (some 7) (strA t0) h_19 ?_
   refine WL.a (some 8) (.int .i64 (lenS t0)) h_19 ?_
   replace z := lS z; obtain ⟨t9, e22, z⟩ := z
   refine WL.val (d := (some 9)) (v := .bool t9) (h' := h_19) (by kernel_rfl) (by kernel_rfl) (val_of AV.bool e22 (by kernel_rfl)) ?_
   refine WL.n ?_
   refine Go.weaken (l' := [(0, strA t0), (2, newP h), (4, t4_18), (5, .int .i64 t5), (9, .bool t9)]) (Fr.c (Fr.c (Fr.c (Fr.c (Fr.c Fr.n))))) ?_
   refine n21 ?_
   cases t9 with
   | true =>
    replace z := ifB_t z
    refine W.t ?_
    refine W.skip (by kernel_rfl) ?_
    refine n20 ?_
    refine W.s (fun _ n23 _ q23 _ => ?_)
    refine W.blockK (by kernel_rfl) (fun K24 n24 s24 o24 q24 p24 => ?_)
    refine W.s (fun _ n25 _ q25 _ => ?_)
    refine W.s (fun K26 n26 _ _ _ => ?_)
    refine W.r ?_
    refine WL.a (some 12) (strA t0) h_19 ?_
    refine WL.a (some 13) (.int .i64 t5) h_19 ?_
    replace z := oS z; obtain ⟨t14, e27, z⟩ := z
    refine WL.b (some 14) (.int .u8 t14) h_19 (index_str (P := Pg) (h := h_19) (t := 9) (k := .i64) (by kernel_rfl) e27) ?_
    replace z := lS z; obtain ⟨t15, e28, z⟩ := z
    refine WL.val (d := (some 15)) (v := .bool t15) (h' := h_19) (by kernel_rfl) (by kernel_rfl) (val_of AV.bool e28 (by kernel_rfl)) ?_
    refine WL.a (some 16) (.bool t15) h_19 ?_
    replace z := lS z; obtain ⟨j22, e30, z⟩ := z
    have J31 : ∀ (t22 : Bool) (h_29 : AHeap), j22 t22 h_29 = some (rR, hR) → WL Pg w0 m0 (Func.ntmps Try.f42) (Code.ops (Code.p1 (Code.p1 (Code.p1 (Code.p1 (Code.p2 (Code.p1 (Code.p1 (Code.p2 (Code.p1 (Code.p2 (Code.p2 (codeOf Try.f42))))))))))))) 11 K26 [(0, strA t0), (2, newP h), (4, t4_18), (5, .int .i64 t5), (22, .bool t22)] [] h_29 := by
     intro t22 h_29 z
     rw [e30] at z
     refine WL.n ?_
     refine Go.weaken (l' := [(0, strA t0), (2, newP h), (4, t4_18), (5, .int .i64 t5), (22, .bool t22)]) (Fr.c (Fr.c (Fr.c (Fr.c (Fr.c Fr.n))))) ?_
     refine n26 ?_
     cases t22 with
     | true =>
      replace z := ifB_t z
      refine W.t ?_
      refine W.s (fun _ n32 _ _ _ => ?_)
      refine W.r ?_
      refine WL.a (some 23) (.agg ([.int .i64 0, .int .u64 0, .int .u64 0, .int .u64 0, .int .u64 0, .nsl] : List AV)) h_29 ?_
      replace z := oS z; obtain ⟨h_33, e34, z⟩ := z
      refine WL.e h_33 (store_row (P := Pg) (h := h_29) (t := 41) (v := (.agg ([.int .i64 0, .int .u64 0, .int .u64 0, .int .u64 0, .int .u64 0, .nsl] : List AV))) (by kernel_rfl) (by kernel_rfl) e34) ?_
      refine WL.a (some 3) (.bool false) h_33 ?_
      refine WL.n ?_
      refine Go.weaken (l' := [(2, newP h), (3, .bool false)]) (Fr.c (Fr.c Fr.n)) ?_
      refine n32 ?_
      refine W.ret (by kernel_rfl) ?_
      refine q25 ?_
      refine q24 ?_
      refine q23 ?_
      refine q17 ?_
      refine q7 ?_
      refine q5 ?_
      replace z := oS z; obtain ⟨w2_36, e35, z⟩ := z
      obtain ⟨z, hF2⟩ := ret_inj z; subst z; subst hF2
      exact leave_of (rs := [.cell 2 41, .tmp 3]) (vs := [.agg w2_36, .bool false]) (by kernel_rfl) (res_cell (by kernel_rfl) (load_row (P := Pg) (h := h_33) (t := 41) (by kernel_rfl) (by kernel_rfl) e35) (res_tmp (by kernel_rfl) res_nil)) (by kernel_rfl)
     | false =>
      replace z := ifB_f z
      refine W.f ?_
      refine W.skip (by kernel_rfl) ?_
      refine n25 ?_
      refine W.blockK (by kernel_rfl) (fun K37 n37 s37 o37 q37 p37 => ?_)
      refine W.s (fun _ n38 _ _ _ => ?_)
      refine W.r ?_
      refine WL.a (some 32) (strA t0) h_29 ?_
      refine WL.a (some 33) (.int .i64 t5) h_29 ?_
      replace z := oS z; obtain ⟨t34, e39, z⟩ := z
      refine WL.b (some 34) (.int .u8 t34) h_29 (index_str (P := Pg) (h := h_29) (t := 9) (k := .i64) (by kernel_rfl) e39) ?_
      replace z := lS z; obtain ⟨t35, e40, z⟩ := z
      refine WL.val (d := (some 35)) (v := .bool t35) (h' := h_29) (by kernel_rfl) (by kernel_rfl) (val_of AV.bool e40 (by kernel_rfl)) ?_
      refine WL.a (some 31) (.bool t35) h_29 ?_
      refine WL.n ?_
      refine Go.weaken (l' := [(0, strA t0), (2, newP h), (4, t4_18), (5, .int .i64 t5), (31, .bool t35)]) (Fr.c (Fr.c (Fr.c (Fr.c (Fr.c Fr.n))))) ?_
      refine n38 ?_
      replace z := lS z; obtain ⟨k41, e41, z⟩ := z
      have J41 : ∀ (t4_42 : AV) (t5_43 : Int) (h_44 : AHeap), k41 t4_42 t5_43 h_44 = some (rR, hR) → Go w0 m0 (Func.ntmps Try.f42) (K37 .normal) [(0, strA t0), (2, newP h), (4, t4_42), (5, .int .i64 t5_43)] [] h_44 := by
       intro t4_42 t5_43 h_44 z
       rw [e41] at z
       refine n37 ?_
       refine n24 ?_
       refine n23 ?_
       refine W.r ?_
       refine WL.a (some 10) (.int .i64 t5_43) h_44 ?_
       replace z := lS z; obtain ⟨t11, e45, z⟩ := z
       refine WL.val (d := (some 11)) (v := .int .i64 t11) (h' := h_44) (by kernel_rfl) (by kernel_rfl) (val_of (AV.int .i64) e45 (by kernel_rfl)) ?_
       refine WL.a (some 5) (.int .i64 t11) h_44 ?_
       refine WL.n ?_
       refine Go.weaken (l' := [(0, strA t0), (2, newP h), (4, t4_42), (5, .int .i64 t11)]) (Fr.c (Fr.c (Fr.c (Fr.c Fr.n)))) ?_
       refine n17 ?_
       exact Go.weaken (Fr.c (Fr.c (Fr.c (Fr.c Fr.n)))) (ih17 _ _ _ z)
      cases t35 with
      | true =>
       replace z := ifB_t z
       refine W.t ?_
       refine W.s (fun _ n46 _ _ _ => ?_)
       refine W.r ?_
       refine WL.a (some 36) t4_18 h_29 ?_
       refine WL.a (some 37) (strA t0) h_29 ?_
       refine WL.a (some 38) (.int .i64 t5) h_29 ?_
       replace z := lS z; obtain ⟨t39, e47, z⟩ := z
       refine WL.val (d := (some 39)) (v := .int .i64 t39) (h' := h_29) (by kernel_rfl) (by kernel_rfl) (val_of (AV.int .i64) e47 (by kernel_rfl)) ?_
       replace z := oS z; obtain ⟨t40, e48, z⟩ := z
       refine WL.b (some 40) (.int .u8 t40) h_29 (index_str (P := Pg) (h := h_29) (t := 9) (k := .i64) (by kernel_rfl) e48) ?_
       replace z := callN_some z; obtain ⟨r41, h_49, e50, z⟩ := z
       replace z := oS z; obtain ⟨t41, c51, z⟩ := z
       have c51 := avAgg_some c51
       subst c51
       refine WL.c (hc.ok w0) (some 41) e50 ?_
       replace z := outK_some z; obtain ⟨v42, h_52, e53, z⟩ := z
       refine WL.b (some 42) v42 h_52 e53 ?_
       replace z := outK_some z; obtain ⟨v43, h_54, e55, z⟩ := z
       refine WL.b (some 43) v43 h_54 e55 ?_
       refine WL.a (some 4) v43 h_54 ?_
       refine WL.n ?_
       refine Go.weaken (l' := [(0, strA t0), (2, newP h), (4, v43), (5, .int .i64 t5)]) (Fr.c (Fr.c (Fr.c (Fr.c Fr.n)))) ?_
       refine n46 ?_
       refine W.r ?_
       refine WL.a (some 44) (.int .i64 t5) h_54 ?_
       replace z := lS z; obtain ⟨t45, e56, z⟩ := z
       refine WL.val (d := (some 45)) (v := .int .i64 t45) (h' := h_54) (by kernel_rfl) (by kernel_rfl) (val_of (AV.int .i64) e56 (by kernel_rfl)) ?_
       refine WL.a (some 5) (.int .i64 t45) h_54 ?_
       refine WL.n ?_
       refine Go.weaken (l' := [(0, strA t0), (2, newP h), (4, v43), (5, .int .i64 t45)]) (Fr.c (Fr.c (Fr.c (Fr.c Fr.n)))) ?_
       exact Go.weaken (Fr.c (Fr.c (Fr.c (Fr.c Fr.n)))) (J41 _ _ _ z)
      | false =>
       replace z := ifB_f z
       refine W.f ?_
       refine W.s (fun _ n57 _ _ _ => ?_)
       refine W.r ?_
       refine WL.a (some 47) (strA t0) h_29 ?_
       refine WL.a (some 48) (.int .i64 t5) h_29 ?_
       replace z := oS z; obtain ⟨t49, e58, z⟩ := z
       refine WL.b (some 49) (.int .u8 t49) h_29 (index_str (P := Pg) (h := h_29) (t := 9) (k := .i64) (by kernel_rfl) e58) ?_
       replace z := lS z; obtain ⟨t50, e59, z⟩ := z
       refine WL.val (d := (some 50)) (v := .bool t50) (h' := h_29) (by kernel_rfl) (by kernel_rfl) (val_of AV.bool e59 (by kernel_rfl)) ?_
       refine WL.a (some 46) (.bool t50) h_29 ?_
       refine WL.n ?_
       refine Go.weaken (l' := [(0, strA t0), (2, newP h), (4, t4_18), (5, .int .i64 t5), (46, .bool t50)]) (Fr.c (Fr.c (Fr.c (Fr.c (Fr.c Fr.n))))) ?_
       refine n57 ?_
       replace z := lS z; obtain ⟨k60, e60, z⟩ := z
       have J60 : ∀ (t4_61 : AV) (h_62 : AHeap), k60 t4_61 h_62 = some (rR, hR) → Go w0 m0 (Func.ntmps Try.f42) (K37 .normal) [(0, strA t0), (2, newP h), (4, t4_61), (5, .int .i64 t5)] [] h_62 := by
        intro t4_61 h_62 z
        rw [e60] at z
        exact Go.weaken (Fr.c (Fr.c (Fr.c (Fr.c Fr.n)))) (J41 _ _ _ z)
       cases t50 with
       | true =>
        replace z := ifB_t z
        refine W.t ?_
        refine W.r ?_
        refine WL.a (some 51) t4_18 h_29 ?_
        replace z := callN_some z; obtain ⟨r52, h_63, e64, z⟩ := z
        replace z := oS z; obtain ⟨t52, c65, z⟩ := z
        have c65 := avAgg_some c65
        subst c65
        refine WL.c (hc.ok w0) (some 52) e64 ?_
        replace z := outK_some z; obtain ⟨v53, h_66, e67, z⟩ := z
        refine WL.b (some 53) v53 h_66 e67 ?_
        replace z := oS z; obtain ⟨t54, e68, z⟩ := z
        refine WL.val (d := (some 54)) (v := .agg t54) (h' := h_66) (by kernel_rfl) (by kernel_rfl) (bld_ok (by kernel_rfl) e68) ?_
        replace z := outK_some z; obtain ⟨v55, h_69, e70, z⟩ := z
        refine WL.b (some 55) v55 h_69 e70 ?_
        replace z := outK_some z; obtain ⟨v56, h_71, e72, z⟩ := z
        refine WL.b (some 56) v56 h_71 e72 ?_
        refine WL.a (some 4) v56 h_71 ?_
        refine WL.n ?_
        refine Go.weaken (l' := [(0, strA t0), (2, newP h), (4, v56), (5, .int .i64 t5)]) (Fr.c (Fr.c (Fr.c (Fr.c Fr.n)))) ?_
        exact Go.weaken (Fr.c (Fr.c (Fr.c (Fr.c Fr.n)))) (J60 _ _ z)
       | false =>
        replace z := ifB_f z
        refine W.f ?_
        refine W.s (fun _ n73 _ _ _ => ?_)
        refine W.r ?_
        refine WL.a (some 58) (strA t0) h_29 ?_
        refine WL.a (some 59) (.int .i64 t5) h_29 ?_
        replace z := oS z; obtain ⟨t60, e74, z⟩ := z
        refine WL.b (some 60) (.int .u8 t60) h_29 (index_str (P := Pg) (h := h_29) (t := 9) (k := .i64) (by kernel_rfl) e74) ?_
        replace z := lS z; obtain ⟨t61, e75, z⟩ := z
        refine WL.val (d := (some 61)) (v := .bool t61) (h' := h_29) (by kernel_rfl) (by kernel_rfl) (val_of AV.bool e75 (by kernel_rfl)) ?_
        refine WL.a (some 57) (.bool t61) h_29 ?_
        refine WL.n ?_
        refine Go.weaken (l' := [(0, strA t0), (2, newP h), (4, t4_18), (5, .int .i64 t5), (57, .bool t61)]) (Fr.c (Fr.c (Fr.c (Fr.c (Fr.c Fr.n))))) ?_
        refine n73 ?_
        replace z := lS z; obtain ⟨k76, e76, z⟩ := z
        have J76 : ∀ (t4_77 : AV) (h_78 : AHeap), k76 t4_77 h_78 = some (rR, hR) → Go w0 m0 (Func.ntmps Try.f42) (K37 .normal) [(0, strA t0), (2, newP h), (4, t4_77), (5, .int .i64 t5)] [] h_78 := by
         intro t4_77 h_78 z
         rw [e76] at z
         exact Go.weaken (Fr.c (Fr.c (Fr.c (Fr.c Fr.n)))) (J60 _ _ z)
        cases t61 with
        | true =>
         replace z := ifB_t z
         refine W.t ?_
         refine W.r ?_
         refine WL.a (some 62) t4_18 h_29 ?_
         replace z := callN_some z; obtain ⟨r63, h_79, e80, z⟩ := z
         replace z := oS z; obtain ⟨t63, c81, z⟩ := z
         have c81 := avAgg_some c81
         subst c81
         refine WL.c (hc.ok w0) (some 63) e80 ?_
         replace z := outK_some z; obtain ⟨v64, h_82, e83, z⟩ := z
         refine WL.b (some 64) v64 h_82 e83 ?_
         replace z := outK_some z; obtain ⟨v65, h_84, e85, z⟩ := z
         refine WL.b (some 65) v65 h_84 e85 ?_
         refine WL.a (some 4) v65 h_84 ?_
         refine WL.n ?_
         refine Go.weaken (l' := [(0, strA t0), (2, newP h), (4, v65), (5, .int .i64 t5)]) (Fr.c (Fr.c (Fr.c (Fr.c Fr.n)))) ?_
         exact Go.weaken (Fr.c (Fr.c (Fr.c (Fr.c Fr.n)))) (J76 _ _ z)
        | false =>
         replace z := ifB_f z
         refine W.f ?_
         refine W.r ?_
         refine WL.a (some 24) t4_18 h_29 ?_
         refine WL.a (some 25) (strA t0) h_29 ?_
         refine WL.a (some 26) (.int .i64 t5) h_29 ?_
         replace z := oS z; obtain ⟨t27, e86, z⟩ := z
         refine WL.b (some 27) (.int .u8 t27) h_29 (index_str (P := Pg) (h := h_29) (t := 9) (k := .i64) (by kernel_rfl) e86) ?_
         replace z := callN_some z; obtain ⟨r28, h_87, e88, z⟩ := z
         replace z := oS z; obtain ⟨t28, c89, z⟩ := z
         have c89 := avAgg_some c89
         subst c89
         refine WL.c (hc.ok w0) (some 28) e88 ?_
         replace z := outK_some z; obtain ⟨v29, h_90, e91, z⟩ := z
         refine WL.b (some 29) v29 h_90 e91 ?_
         replace z := outK_some z; obtain ⟨v30, h_92, e93, z⟩ := z
         refine WL.b (some 30) v30 h_92 e93 ?_
         refine WL.a (some 4) v30 h_92 ?_
         refine WL.n ?_
         refine Go.weaken (l' := [(0, strA t0), (2, newP h), (4, v30), (5, .int .i64 t5)]) (Fr.c (Fr.c (Fr.c (Fr.c Fr.n)))) ?_
         exact Go.weaken (Fr.c (Fr.c (Fr.c (Fr.c Fr.n)))) (J76 _ _ z)
    cases t15 with
    | true =>
     replace z := ifB_t z
     refine WL.a (some 17) (.int .i64 t5) h_19 ?_
     replace z := lS z; obtain ⟨t18, e94, z⟩ := z
     refine WL.val (d := (some 18)) (v := .int .i64 t18) (h' := h_19) (by kernel_rfl) (by kernel_rfl) (val_of (AV.int .i64) e94 (by kernel_rfl)) ?_
     refine WL.a (some 19) (strA t0) h_19 ?_
     refine WL.a (some 20) (.int .i64 (lenS t0)) h_19 ?_
     replace z := lS z; obtain ⟨t21, e95, z⟩ := z
     refine WL.val (d := (some 21)) (v := .bool t21) (h' := h_19) (by kernel_rfl) (by kernel_rfl) (val_of AV.bool e95 (by kernel_rfl)) ?_
     refine WL.a (some 22) (.bool t21) h_19 ?_
     exact WL.weaken (Fr.c (Fr.c (Fr.c (Fr.c (Fr.c Fr.n))))) (J31 _ _ z)
    | false =>
     replace z := ifB_f z
     refine WL.o (some 17) ?_
     refine WL.o (some 18) ?_
     refine WL.o (some 19) ?_
     refine WL.o (some 20) ?_
     refine WL.o (some 21) ?_
     refine WL.a (some 22) (.bool false) h_19 ?_
     exact WL.weaken (Fr.c (Fr.c (Fr.c (Fr.c (Fr.c Fr.n))))) (J31 _ _ z)
   | false =>
    replace z := ifB_f z
    refine W.f ?_
    refine W.exit (by kernel_rfl) ?_
    refine e20 ?_
    refine e17 ?_
    refine s7 (by kernel_rfl) ?_
    exact Go.weaken (Fr.c (Fr.c Fr.n)) (J8 _ _ z)
 exact Go.weaken (Fr.c (Fr.c (Fr.c (Fr.c Fr.n)))) (L17 _ _ _ _ z)
noncomputable def ref09_glob_fn (call : CallF) (n : Nat) : FnT := fun args h => match args with
 | [x0] => obind (avStr x0) fun t0 => ref09_glob call n t0 h
 | _ => none
set_option maxRecDepth 100000 in
theorem ref09_glob_fn_eq (call : CallF) (n : Nat) (t0 : Bytes) (h : AHeap) : ref09_glob_fn call n [strA t0] h = ref09_glob call n t0 h :=
 (Eq.trans (obind_eq (fun t0 => ref09_glob call n t0 h) (avStr_str t0)) rfl)
theorem ref09_glob_holds {call : CallF} (hc : SaysAll Pg call) (n : Nat) : Holds Pg 42 (ref09_glob_fn call n) := by
 intro args h r h2 e
 unfold ref09_glob_fn at e
 split at e
 ·replace e := oS e; obtain ⟨t0, c0, e⟩ := e; have c0 := avStr_some c0; subst c0
  exact ref09_glob_ok hc e
 ·cases e
noncomputable def ref09_One (_ : CallF) (_ : Nat) (t0 : Int) (h : AHeap) : R :=
 lett (newH h 41 [.int .i64 0, .int .u64 0, .int .u64 0, .int .u64 0, .int .u64 0, .nsl]) fun h_2 =>
 lett (newH h_2 41 [.int .i64 0, .int .u64 0, .int .u64 0, .int .u64 0, .int .u64 0, .nsl]) fun h_5 =>
 obind (stRow h_5 6 ([.int .i64 2, .int .u64 0, .int .u64 0, .int .u64 0, .int .u64 0, .nsl] : List AV) (newP h_2)) fun h_7 =>
 obind (quoI .u8 t0 64) fun t6 =>
 obind (remI .u8 t0 64) fun t8 =>
 obind (shlI .u64 1 t8) fun t9 =>
 obind (idxA 4 1 (AV.ptr (AHeap.next h_2) 1) t6) fun t11 =>
 obind (stRow h_7 1 [.int .u64 t9] t11) fun h_14 =>
 obind (ldRow h_14 6 (newP h_2)) fun t12 =>
 obind (stRow h_14 6 t12 (newP h)) fun h_18 =>
 obind (ldRow h_18 6 (newP h)) fun w2 =>
 some (.ret (.agg w2), h_18)
theorem ref09_One_ok {call : CallF} (_ : SaysAll Pg call) {n : Nat} {t0 : Int} {h : AHeap} {rR : ARes} {hR : AHeap} (z : ref09_One call n t0 h = some (rR, hR)) : Says Pg 64 [.int .u8 t0] h rR hR := by
 unfold ref09_One at z
 refine says_of (fn := Try.f64) Try.func64 (c := codeOf Try.f64) (by kernel_rfl) (by kernel_rfl) (fun w0 m0 => ?_)
 refine W.weaken (l' := [(0, .int .u8 t0)]) (Fr.c Fr.n) ?_
 refine W.s (fun _ n1 _ _ _ => ?_)
 refine W.r ?_
 replace z := lS z; obtain ⟨h_2, e3, z⟩ := z
 refine WL.val (d := (some 2)) (v := (newP h)) (h' := h_2) (by kernel_rfl) (by kernel_rfl) (val_ofH e3 (by kernel_rfl)) ?_
 refine WL.n ?_
 refine Go.weaken (l' := [(0, .int .u8 t0), (2, newP h)]) (Fr.c (Fr.c Fr.n)) ?_
 refine n1 ?_
 refine W.s (fun _ n4 _ _ _ => ?_)
 refine W.r ?_
 refine WL.a (some 4) (.agg ([.int .i64 2, .int .u64 0, .int .u64 0, .int .u64 0, .int .u64 0, .nsl] : List AV)) h_2 ?_
 replace z := lS z; obtain ⟨h_5, e6, z⟩ := z
 refine WL.val (d := (some 3)) (v := (newP h_2)) (h' := h_5) (by kernel_rfl) (by kernel_rfl) (val_ofH e6 (by kernel_rfl)) ?_
 replace z := oS z; obtain ⟨h_7, e8, z⟩ := z
 refine WL.e h_7 (store_row (P := Pg) (h := h_5) (t := 41) (v := (.agg ([.int .i64 2, .int .u64 0, .int .u64 0, .int .u64 0, .int .u64 0, .nsl] : List AV))) (by kernel_rfl) (by kernel_rfl) e8) ?_
 refine WL.n ?_
 refine Go.weaken (l' := [(0, .int .u8 t0), (2, newP h), (3, newP h_2)]) (Fr.c (Fr.c (Fr.c Fr.n))) ?_
 refine n4 ?_
 refine W.s (fun _ n9 _ _ _ => ?_)
 refine W.r ?_
 refine WL.a (some 5) (.int .u8 t0) h_7 ?_
 replace z := oS z; obtain ⟨t6, e10, z⟩ := z
 refine WL.b (some 6) (.int .u8 t6) h_7 (quo_int (P := Pg) (h := h_7) (t := 5) (lit := true) e10) ?_
 refine WL.a (some 7) (.int .u8 t0) h_7 ?_
 replace z := oS z; obtain ⟨t8, e11, z⟩ := z
 refine WL.b (some 8) (.int .u8 t8) h_7 (rem_int (P := Pg) (h := h_7) (t := 5) (lit := true) e11) ?_
 replace z := oS z; obtain ⟨t9, e12, z⟩ := z
 refine WL.b (some 9) (.int .u64 t9) h_7 (shl_int (P := Pg) (h := h_7) (t := 36) (k' := .u8) (lit := true) e12) ?_
 refine WL.a (some 10) (AV.ptr (AHeap.next h_2) 1) h_7 ?_
 replace z := oS z; obtain ⟨t11, e13, z⟩ := z
 refine WL.b (some 11) t11 h_7 (index_arr (P := Pg) (h := h_7) (t := 38) (e' := 36) (k := .u8) (by kernel_rfl) (by kernel_rfl) (by kernel_rfl) e13) ?_
 replace z := oS z; obtain ⟨h_14, e15, z⟩ := z
 refine WL.e h_14 (store_row (P := Pg) (h := h_7) (t := 36) (v := (.int .u64 t9)) (by kernel_rfl) (by kernel_rfl) e15) ?_
 refine WL.n ?_
 refine Go.weaken (l' := [(2, newP h), (3, newP h_2)]) (Fr.c (Fr.c Fr.n)) ?_
 refine n9 ?_
 refine W.s (fun _ n16 _ _ _ => ?_)
 refine W.r ?_
 replace z := oS z; obtain ⟨t12, e17, z⟩ := z
 refine WL.b (some 12) (.agg t12) h_14 (load_row (P := Pg) (h := h_14) (t := 41) (by kernel_rfl) (by kernel_rfl) e17) ?_
 replace z := oS z; obtain ⟨h_18, e19, z⟩ := z
 refine WL.e h_18 (store_row (P := Pg) (h := h_14) (t := 41) (v := (.agg t12)) (by kernel_rfl) (by kernel_rfl) e19) ?_
 refine WL.n ?_
 refine Go.weaken (l' := [(2, newP h)]) (Fr.c Fr.n) ?_
 refine n16 ?_
 refine W.ret (by kernel_rfl) ?_
 replace z := oS z; obtain ⟨w2, e20, z⟩ := z
 obtain ⟨z, hF2⟩ := ret_inj z; subst z; subst hF2
 exact leave_of (rs := [.cell 2 41]) (vs := [.agg w2]) (by kernel_rfl) (res_cell (by kernel_rfl) (load_row (P := Pg) (h := h_18) (t := 41) (by kernel_rfl) (by kernel_rfl) e20) res_nil) (by kernel_rfl)
noncomputable def ref09_One_fn (call : CallF) (n : Nat) : FnT := fun args h => match args with
 | [x0] => obind (avInt .u8 x0) fun t0 => ref09_One call n t0 h
 | _ => none
set_option maxRecDepth 100000 in
theorem ref09_One_fn_eq (call : CallF) (n : Nat) (t0 : Int) (h : AHeap) : ref09_One_fn call n [.int .u8 t0] h = ref09_One call n t0 h :=
 (Eq.trans (obind_eq (fun t0 => ref09_One call n t0 h) (avInt_int .u8 t0)) rfl)
theorem ref09_One_holds {call : CallF} (hc : SaysAll Pg call) (n : Nat) : Holds Pg 64 (ref09_One_fn call n) := by
 intro args h r h2 e
 unfold ref09_One_fn at e
 split at e
 ·replace e := oS e; obtain ⟨t0, c0, e⟩ := e; have c0 := avInt_some c0; subst c0
  exact ref09_One_ok hc e
 ·cases e
noncomputable def ref09_All_L0b (h_2 : AHeap) (k12 : AHeap → R) (self : Int → AHeap → R) (t2 : Int) (h_20 : AHeap) : R :=
 lett (decide (t2 < 256)) fun (t5 : Bool) =>
 ifB t5
 (
  obind (quoI .i64 t2 64) fun t9 =>
  obind (idxA 4 1 (AV.ptr (AHeap.next h_2) 1) t9) fun t11 =>
  obind (ldCell h_20 t11) fun v12 =>
  obind (avInt .u64 v12) fun t12 =>
  obind (remI .i64 t2 64) fun t14 =>
  obind (shlI .u64 1 t14) fun t15 =>
  lett (orI .u64 t12 t15) fun (t16 : Int) =>
  obind (idxA 4 1 (AV.ptr (AHeap.next h_2) 1) t9) fun t18 =>
  obind (stRow h_20 1 [.int .u64 t16] t18) fun h_34 =>
  lett (IntKind.i64.wrap (t2 + 1)) fun (t7 : Int) =>
  self t7 h_34)
 (
  k12 h_20)
noncomputable def ref09_All_L0 (h_2 : AHeap) (k12 : AHeap → R) : Nat → Int → AHeap → R := iterR (fun _ _ => none) (ref09_All_L0b h_2 k12)
theorem ref09_All_L0_s (h_2 : AHeap) (k12 : AHeap → R) (m : Nat) : ref09_All_L0 h_2 k12 (m + 1) = ref09_All_L0b h_2 k12 (ref09_All_L0 h_2 k12 m) := rfl
noncomputable def ref09_All (_ : CallF) (n : Nat)  (h : AHeap) : R :=
 lett (newH h 41 [.int .i64 0, .int .u64 0, .int .u64 0, .int .u64 0, .int .u64 0, .nsl]) fun h_2 =>
 lett (newH h_2 41 [.int .i64 0, .int .u64 0, .int .u64 0, .int .u64 0, .int .u64 0, .nsl]) fun h_5 =>
 obind (stRow h_5 6 ([.int .i64 2, .int .u64 0, .int .u64 0, .int .u64 0, .int .u64 0, .nsl] : List AV) (newP h_2)) fun h_7 =>
 lett (fun  (h_13 : AHeap) =>
  obind (ldRow h_13 6 (newP h_2)) fun t19 =>
  obind (stRow h_13 6 t19 (newP h)) fun h_16 =>
  obind (ldRow h_16 6 (newP h)) fun w0 =>
  some (.ret (.agg w0), h_16)) fun k12 =>
 ref09_All_L0 h_2 k12 n 0 h_7
theorem ref09_All_ok {call : CallF} (hc : SaysAll Pg call) {n : Nat}  {h : AHeap} {rR : ARes} {hR : AHeap} (z : ref09_All call n  h = some (rR, hR)) : Says Pg 66 [] h rR hR := by
 unfold ref09_All at z
 refine says_of (fn := Try.f66) Try.func66 (c := codeOf Try.f66) (by kernel_rfl) (by kernel_rfl) (fun w0 m0 => ?_)
 refine W.weaken (l' := []) Fr.n ?_
 refine W.s (fun _ n1 _ _ _ => ?_)
 refine W.r ?_
 replace z := lS z; obtain ⟨h_2, e3, z⟩ := z
 refine WL.val (d := (some 0)) (v := (newP h)) (h' := h_2) (by kernel_rfl) (by kernel_rfl) (val_ofH e3 (by kernel_rfl)) ?_
 refine WL.n ?_
 refine Go.weaken (l' := [(0, newP h)]) (Fr.c Fr.n) ?_
 refine n1 ?_
 refine W.s (fun _ n4 _ _ _ => ?_)
 refine W.r ?_
 refine WL.a (some 3) (.agg ([.int .i64 2, .int .u64 0, .int .u64 0, .int .u64 0, .int .u64 0, .nsl] : List AV)) h_2 ?_
 replace z := lS z; obtain ⟨h_5, e6, z⟩ := z
 refine WL.val (d := (some 1)) (v := (newP h_2)) (h' := h_5) (by kernel_rfl) (by kernel_rfl) (val_ofH e6 (by kernel_rfl)) ?_
 replace z := oS z; obtain ⟨h_7, e8, z⟩ := z
 refine WL.e h_7 (store_row (P := Pg) (h := h_5) (t := 41) (v := (.agg ([.int .i64 2, .int .u64 0, .int .u64 0, .int .u64 0, .int .u64 0, .nsl] : List AV))) (by kernel_rfl) (by kernel_rfl) e8) ?_
 refine WL.n ?_
 refine Go.weaken (l' := [(0, newP h), (1, newP h_2)]) (Fr.c (Fr.c Fr.n)) ?_
 refine n4 ?_
 refine W.s (fun K9 n9 _ _ _ => ?_)
 refine W.s (fun _ n10 _ _ _ => ?_)
 refine W.r ?_
 refine WL.a (some 2) (.int .i64 0) h_7 ?_
 refine WL.n ?_
 refine Go.weaken (l' := [(0, newP h), (1, newP h_2), (2, .int .i64 0)]) (Fr.c (Fr.c (Fr.c Fr.n))) ?_
 refine n10 ?_
 replace z := lS z; obtain ⟨k12, e12, z⟩ := z
 have J12 : ∀  (h_13 : AHeap), k12 h_13 = some (rR, hR) → Go w0 m0 (Func.ntmps Try.f66) (K9 .normal) [(0, newP h), (1, newP h_2)] [] h_13 := by
  intro  h_13 z
  rw [e12] at z
  refine n9 ?_
  refine W.s (fun _ n14 _ _ _ => ?_)
  refine W.r ?_
  replace z := oS z; obtain ⟨t19, e15, z⟩ := z
  refine WL.b (some 19) (.agg t19) h_13 (load_row (P := Pg) (h := h_13) (t := 41) (by kernel_rfl) (by kernel_rfl) e15) ?_
  replace z := oS z; obtain ⟨h_16, e17, z⟩ := z
  refine WL.e h_16 (store_row (P := Pg) (h := h_13) (t := 41) (v := (.agg t19)) (by kernel_rfl) (by kernel_rfl) e17) ?_
  refine WL.n ?_
  refine Go.weaken (l' := [(0, newP h)]) (Fr.c Fr.n) ?_
  refine n14 ?_
  refine W.ret (by kernel_rfl) ?_
  replace z := oS z; obtain ⟨w0, e18, z⟩ := z
  obtain ⟨z, hF2⟩ := ret_inj z; subst z; subst hF2
  exact leave_of (rs := [.cell 0 41]) (vs := [.agg w0]) (by kernel_rfl) (res_cell (by kernel_rfl) (load_row (P := Pg) (h := h_16) (t := 41) (by kernel_rfl) (by kernel_rfl) e18) res_nil) (by kernel_rfl)
 refine W.blockK (by kernel_rfl) (fun K11 n11 s11 o11 q11 p11 => ?_)
 refine W.loopK (by kernel_rfl) (fun I19 K19 b19 n19 e19 q19 p19 => ?_)
 have L19 : ∀ (m : Nat) (t2 : Int) (h_20 : AHeap), ref09_All_L0 h_2 k12 m t2 h_20 = some (rR, hR) → Go w0 m0 (Func.ntmps Try.f66) I19 [(0, newP h), (1, newP h_2), (2, .int .i64 t2)] [] h_20 := by
  intro m
  induction m with
  | zero => intro t2 h_20 z; cases z
  | succ m ih19 =>
   intro t2 h_20 z
   rw [ref09_All_L0_s] at z; unfold ref09_All_L0b at z
   refine b19 ?_
   refine W.s (fun _ n21 e21 _ _ => ?_)
   refine W.s (fun _ n22 _ _ _ => ?_)
   refine W.r ?_
   refine WL.a (some 4) (.int .i64 t2) h_20 ?_
   replace z := lS z; obtain ⟨t5, e23, z⟩ := z
   refine WL.val (d := (some 5)) (v := .bool t5) (h' := h_20) (by kernel_rfl) (by kernel_rfl) (val_of AV.bool e23 (by kernel_rfl)) ?_
   refine WL.n ?_
   refine Go.weaken (l' := [(0, newP h), (1, newP h_2), (2, .int .i64 t2), (5, .bool t5)]) (Fr.c (Fr.c (Fr.c (Fr.c Fr.n)))) ?_
   refine n22 ?_
   cases t5 with
   | true =>
    replace z := ifB_t z
    refine W.t ?_
    refine W.skip (by kernel_rfl) ?_
    refine n21 ?_
    refine W.s (fun _ n24 _ _ _ => ?_)
    refine W.blockK (by kernel_rfl) (fun K25 n25 s25 o25 q25 p25 => ?_)
    refine W.draw (by kernel_rfl) (hc.ok w0) (plan := [0, 1, 2, 3, 4, 5, 6, 7, 8, 9, 10, 11]) (by kernel_rfl) (by kernel_rfl) (by kernel_rfl) ?_
    refine WD.a 0 (some 8) (.int .i64 t2) h_20 ?_
    replace z := oS z; obtain ⟨t9, e26, z⟩ := z
    refine WD.b 0 (some 9) (.int .i64 t9) h_20 (quo_int (P := Pg) (h := h_20) (t := 3) (lit := true) e26) ?_
    refine WD.a 0 (some 10) (AV.ptr (AHeap.next h_2) 1) h_20 ?_
    replace z := oS z; obtain ⟨t11, e27, z⟩ := z
    refine WD.b 0 (some 11) t11 h_20 (index_arr (P := Pg) (h := h_20) (t := 38) (e' := 36) (k := .i64) (by kernel_rfl) (by kernel_rfl) (by kernel_rfl) e27) ?_
    replace z := oS z; obtain ⟨v12, e28, z⟩ := z
    replace z := oS z; obtain ⟨t12, c29, z⟩ := z
    have c29 := avInt_some c29
    subst c29
    refine WD.b 1 (some 12) (.int .u64 t12) h_20 (load_cell (P := Pg) (h := h_20) (t := 36) (by kernel_rfl) e28) ?_
    refine WD.a 0 (some 13) (.int .i64 t2) h_20 ?_
    replace z := oS z; obtain ⟨t14, e30, z⟩ := z
    refine WD.b 0 (some 14) (.int .i64 t14) h_20 (rem_int (P := Pg) (h := h_20) (t := 3) (lit := true) e30) ?_
    replace z := oS z; obtain ⟨t15, e31, z⟩ := z
    refine WD.b 0 (some 15) (.int .u64 t15) h_20 (shl_int (P := Pg) (h := h_20) (t := 36) (k' := .i64) (lit := true) e31) ?_
    replace z := lS z; obtain ⟨t16, e32, z⟩ := z
    refine WD.val (d := (some 16)) (v := .int .u64 t16) (h' := h_20) (by kernel_rfl) (by kernel_rfl) (val_of (AV.int .u64) e32 (by kernel_rfl)) (k := 0) (by kernel_rfl) (fun e => absurd e (by decide)) (by decide) ?_
    refine WD.a 0 (some 17) (AV.ptr (AHeap.next h_2) 1) h_20 ?_
    replace z := oS z; obtain ⟨t18, e33, z⟩ := z
    refine WD.b 0 (some 18) t18 h_20 (index_arr (P := Pg) (h := h_20) (t := 38) (e' := 36) (k := .i64) (by kernel_rfl) (by kernel_rfl) (by kernel_rfl) e33) ?_
    replace z := oS z; obtain ⟨h_34, e35, z⟩ := z
    refine WD.eff (h' := h_34) (by kernel_rfl) (by kernel_rfl) (Eq.trans (by kernel_rfl) (store_row (P := Pg) (h := h_20) (t := 36) (v := (.int .u64 t16)) (by kernel_rfl) (by kernel_rfl) e35)) (k := 2) (by kernel_rfl) (fun _ => (by kernel_rfl)) (by decide) ?_
    refine WD.nil ?_
    refine Go.weaken (l' := [(0, newP h), (1, newP h_2), (2, .int .i64 t2)]) (Fr.c (Fr.c (Fr.c Fr.n))) ?_
    refine n25 ?_
    refine n24 ?_
    refine W.r ?_
    refine WL.a (some 6) (.int .i64 t2) h_34 ?_
    replace z := lS z; obtain ⟨t7, e36, z⟩ := z
    refine WL.val (d := (some 7)) (v := .int .i64 t7) (h' := h_34) (by kernel_rfl) (by kernel_rfl) (val_of (AV.int .i64) e36 (by kernel_rfl)) ?_
    refine WL.a (some 2) (.int .i64 t7) h_34 ?_
    refine WL.n ?_
    refine Go.weaken (l' := [(0, newP h), (1, newP h_2), (2, .int .i64 t7)]) (Fr.c (Fr.c (Fr.c Fr.n))) ?_
    refine n19 ?_
    exact Go.weaken (Fr.c (Fr.c (Fr.c Fr.n))) (ih19 _ _ z)
   | false =>
    replace z := ifB_f z
    refine W.f ?_
    refine W.exit (by kernel_rfl) ?_
    refine e21 ?_
    refine e19 ?_
    refine s11 (by kernel_rfl) ?_
    exact Go.weaken (Fr.c (Fr.c Fr.n)) (J12 _ z)
 exact Go.weaken (Fr.c (Fr.c (Fr.c Fr.n))) (L19 _ _ _ z)
noncomputable def ref09_All_fn (call : CallF) (n : Nat) : FnT := fun args h => match args with
 | [] => ref09_All call n  h
 | _ => none
set_option maxRecDepth 100000 in
theorem ref09_All_fn_eq (call : CallF) (n : Nat)  (h : AHeap) : ref09_All_fn call n [] h = ref09_All call n  h :=
 rfl
theorem ref09_All_holds {call : CallF} (hc : SaysAll Pg call) (n : Nat) : Holds Pg 66 (ref09_All_fn call n) := by
 intro args h r h2 e
 unfold ref09_All_fn at e
 split at e
 ·exact ref09_All_ok hc e
 ·cases e
noncomputable def ref09_Over (_ : CallF) (_ : Nat) (t0 : Int) (t1 : AV) (h : AHeap) : R :=
 lett (newH h 41 [.int .i64 0, .int .u64 0, .int .u64 0, .int .u64 0, .int .u64 0, .nsl]) fun h_2 =>
 obind (lenL t1) fun t6 =>
 lett ((t6 : Int) == 0) fun (t7 : Bool) =>
 ifB t7
 (
  obind (stRow h_2 6 ([.int .i64 1, .int .u64 0, .int .u64 0, .int .u64 0, .int .u64 0, .nsl] : List AV) (newP h)) fun h_9 =>
  obind (ldRow h_9 6 (newP h)) fun w4 =>
  some (.ret (.agg w4), h_9))
 (
  obind (lenL t1) fun t10 =>
  lett ((t10 : Int) == 1) fun (t11 : Bool) =>
  ifB t11
  (
   obind (idxP 6 t1 0) fun t13 =>
   obind (ldRow h_2 6 t13) fun t14 =>
   obind (stRow h_2 6 t14 (newP h)) fun h_19 =>
   obind (ldRow h_19 6 (newP h)) fun w4_22 =>
   some (.ret (.agg w4_22), h_19))
  (
   obind (bldS Pg 41 [(0, .int .i64 t0), (2, t1)]) fun t17 =>
   obind (stRow h_2 6 t17 (newP h)) fun h_25 =>
   obind (ldRow h_25 6 (newP h)) fun w4_28 =>
   some (.ret (.agg w4_28), h_25)))
theorem ref09_Over_ok {call : CallF} (_ : SaysAll Pg call) {n : Nat} {t0 : Int} {t1 : AV} {h : AHeap} {rR : ARes} {hR : AHeap} (z : ref09_Over call n t0 t1 h = some (rR, hR)) : Says Pg 65 [.int .i64 t0, t1] h rR hR := by
 unfold ref09_Over at z
 refine says_of (fn := Try.f65) Try.func65 (c := codeOf Try.f65) (by kernel_rfl) (by kernel_rfl) (fun w0 m0 => ?_)
 refine W.weaken (l' := [(0, .int .i64 t0), (1, t1)]) (Fr.c (Fr.c Fr.n)) ?_
 refine W.s (fun _ n1 _ _ _ => ?_)
 refine W.r ?_
 replace z := lS z; obtain ⟨h_2, e3, z⟩ := z
 refine WL.val (d := (some 4)) (v := (newP h)) (h' := h_2) (by kernel_rfl) (by kernel_rfl) (val_ofH e3 (by kernel_rfl)) ?_
 refine WL.n ?_
 refine Go.weaken (l' := [(0, .int .i64 t0), (1, t1), (4, newP h)]) (Fr.c (Fr.c (Fr.c Fr.n))) ?_
 refine n1 ?_
 refine W.s (fun _ n4 _ q4 _ => ?_)
 refine W.s (fun _ n5 _ _ _ => ?_)
 refine W.r ?_
 refine WL.a (some 5) t1 h_2 ?_
 replace z := oS z; obtain ⟨t6, e6, z⟩ := z
 refine WL.b (some 6) (.int .i64 t6) h_2 (len_row (P := Pg) (h := h_2) (t := 39) (e' := 41) (by kernel_rfl) e6) ?_
 replace z := lS z; obtain ⟨t7, e7, z⟩ := z
 refine WL.val (d := (some 7)) (v := .bool t7) (h' := h_2) (by kernel_rfl) (by kernel_rfl) (val_of AV.bool e7 (by kernel_rfl)) ?_
 refine WL.n ?_
 refine Go.weaken (l' := [(0, .int .i64 t0), (1, t1), (4, newP h), (7, .bool t7)]) (Fr.c (Fr.c (Fr.c (Fr.c Fr.n)))) ?_
 refine n5 ?_
 cases t7 with
 | true =>
  replace z := ifB_t z
  refine W.t ?_
  refine W.s (fun _ n8 _ _ _ => ?_)
  refine W.r ?_
  refine WL.a (some 8) (.agg ([.int .i64 1, .int .u64 0, .int .u64 0, .int .u64 0, .int .u64 0, .nsl] : List AV)) h_2 ?_
  replace z := oS z; obtain ⟨h_9, e10, z⟩ := z
  refine WL.e h_9 (store_row (P := Pg) (h := h_2) (t := 41) (v := (.agg ([.int .i64 1, .int .u64 0, .int .u64 0, .int .u64 0, .int .u64 0, .nsl] : List AV))) (by kernel_rfl) (by kernel_rfl) e10) ?_
  refine WL.n ?_
  refine Go.weaken (l' := [(4, newP h)]) (Fr.c Fr.n) ?_
  refine n8 ?_
  refine W.ret (by kernel_rfl) ?_
  refine q4 ?_
  replace z := oS z; obtain ⟨w4, e11, z⟩ := z
  obtain ⟨z, hF2⟩ := ret_inj z; subst z; subst hF2
  exact leave_of (rs := [.cell 4 41]) (vs := [.agg w4]) (by kernel_rfl) (res_cell (by kernel_rfl) (load_row (P := Pg) (h := h_9) (t := 41) (by kernel_rfl) (by kernel_rfl) e11) res_nil) (by kernel_rfl)
 | false =>
  replace z := ifB_f z
  refine W.f ?_
  refine W.skip (by kernel_rfl) ?_
  refine n4 ?_
  refine W.s (fun _ n12 _ q12 _ => ?_)
  refine W.s (fun _ n13 _ _ _ => ?_)
  refine W.r ?_
  refine WL.a (some 9) t1 h_2 ?_
  replace z := oS z; obtain ⟨t10, e14, z⟩ := z
  refine WL.b (some 10) (.int .i64 t10) h_2 (len_row (P := Pg) (h := h_2) (t := 39) (e' := 41) (by kernel_rfl) e14) ?_
  replace z := lS z; obtain ⟨t11, e15, z⟩ := z
  refine WL.val (d := (some 11)) (v := .bool t11) (h' := h_2) (by kernel_rfl) (by kernel_rfl) (val_of AV.bool e15 (by kernel_rfl)) ?_
  refine WL.n ?_
  refine Go.weaken (l' := [(0, .int .i64 t0), (1, t1), (4, newP h), (11, .bool t11)]) (Fr.c (Fr.c (Fr.c (Fr.c Fr.n)))) ?_
  refine n13 ?_
  cases t11 with
  | true =>
   replace z := ifB_t z
   refine W.t ?_
   refine W.s (fun _ n16 _ _ _ => ?_)
   refine W.r ?_
   refine WL.a (some 12) t1 h_2 ?_
   replace z := oS z; obtain ⟨t13, e17, z⟩ := z
   refine WL.b (some 13) t13 h_2 (index_row (P := Pg) (h := h_2) (t := 39) (e' := 41) (k := .i64) (by kernel_rfl) (by kernel_rfl) (by kernel_rfl) e17) ?_
   replace z := oS z; obtain ⟨t14, e18, z⟩ := z
   refine WL.b (some 14) (.agg t14) h_2 (load_row (P := Pg) (h := h_2) (t := 41) (by kernel_rfl) (by kernel_rfl) e18) ?_
   replace z := oS z; obtain ⟨h_19, e20, z⟩ := z
   refine WL.e h_19 (store_row (P := Pg) (h := h_2) (t := 41) (v := (.agg t14)) (by kernel_rfl) (by kernel_rfl) e20) ?_
   refine WL.n ?_
   refine Go.weaken (l' := [(4, newP h)]) (Fr.c Fr.n) ?_
   refine n16 ?_
   refine W.ret (by kernel_rfl) ?_
   refine q12 ?_
   replace z := oS z; obtain ⟨w4_22, e21, z⟩ := z
   obtain ⟨z, hF2⟩ := ret_inj z; subst z; subst hF2
   exact leave_of (rs := [.cell 4 41]) (vs := [.agg w4_22]) (by kernel_rfl) (res_cell (by kernel_rfl) (load_row (P := Pg) (h := h_19) (t := 41) (by kernel_rfl) (by kernel_rfl) e21) res_nil) (by kernel_rfl)
  | false =>
   replace z := ifB_f z
   refine W.f ?_
   refine W.skip (by kernel_rfl) ?_
   refine n12 ?_
   refine W.s (fun _ n23 _ _ _ => ?_)
   refine W.r ?_
   refine WL.a (some 15) (.int .i64 t0) h_2 ?_
   refine WL.a (some 16) t1 h_2 ?_
   replace z := oS z; obtain ⟨t17, e24, z⟩ := z
   refine WL.val (d := (some 17)) (v := .agg t17) (h' := h_2) (by kernel_rfl) (by kernel_rfl) (bld_ok (by kernel_rfl) e24) ?_
   replace z := oS z; obtain ⟨h_25, e26, z⟩ := z
   refine WL.e h_25 (store_row (P := Pg) (h := h_2) (t := 41) (v := (.agg t17)) (by kernel_rfl) (by kernel_rfl) e26) ?_
   refine WL.n ?_
   refine Go.weaken (l' := [(4, newP h)]) (Fr.c Fr.n) ?_
   refine n23 ?_
   refine W.ret (by kernel_rfl) ?_
   replace z := oS z; obtain ⟨w4_28, e27, z⟩ := z
   obtain ⟨z, hF2⟩ := ret_inj z; subst z; subst hF2
   exact leave_of (rs := [.cell 4 41]) (vs := [.agg w4_28]) (by kernel_rfl) (res_cell (by kernel_rfl) (load_row (P := Pg) (h := h_25) (t := 41) (by kernel_rfl) (by kernel_rfl) e27) res_nil) (by kernel_rfl)
noncomputable def ref09_Over_fn (call : CallF) (n : Nat) : FnT := fun args h => match args with
 | [x0, x1] => obind (avInt .i64 x0) fun t0 => ref09_Over call n t0 x1 h
 | _ => none
set_option maxRecDepth 100000 in
theorem ref09_Over_fn_eq (call : CallF) (n : Nat) (t0 : Int) (t1 : AV) (h : AHeap) : ref09_Over_fn call n [.int .i64 t0, t1] h = ref09_Over call n t0 t1 h :=
 (Eq.trans (obind_eq (fun t0 => ref09_Over call n t0 t1 h) (avInt_int .i64 t0)) rfl)
theorem ref09_Over_holds {call : CallF} (hc : SaysAll Pg call) (n : Nat) : Holds Pg 65 (ref09_Over_fn call n) := by
 intro args h r h2 e
 unfold ref09_Over_fn at e
 split at e
 ·replace e := oS e; obtain ⟨t0, c0, e⟩ := e; have c0 := avInt_some c0; subst c0
  exact ref09_Over_ok hc e
 ·cases e
set_option maxHeartbeats 4000000
set_option maxRecDepth 20000
noncomputable def ref09_alts_L0b (call : CallF) (t0 : Bytes) (h : AHeap) (self : Int → AV → AHeap → R) (t1_7 : Int) (t7 : AV) (h_8 : AHeap) : R :=
 callN (call 67 [strA t0, .int .i64 t1_7] h_8) fun r14 h_11 =>
 obind (extT 0 r14) fun v15 =>
 obind (avAgg v15) fun t15 =>
 obind (extT 1 r14) fun v16 =>
 obind (avInt .i64 v16) fun t16 =>
 obind (extT 2 r14) fun v17 =>
 obind (avBool v17) fun t17 =>
 lett (newH h_11 41 [.int .i64 0, .int .u64 0, .int .u64 0, .int .u64 0, .int .u64 0, .nsl]) fun h_19 =>
 obind (stRow h_19 6 t15 (newP h_11)) fun h_21 =>
 lett (!t17) fun (t19 : Bool) =>
 ifB t19
 (
  obind (stRow h_21 6 ([.int .i64 0, .int .u64 0, .int .u64 0, .int .u64 0, .int .u64 0, .nsl] : List AV) (newP h)) fun h_27 =>
  obind (ldRow h_27 6 (newP h)) fun w4 =>
  some (.ret (.tup [.agg w4, .int .i64 t16, .bool false]), h_27))
 (
  obind (ldRow h_21 6 (newP h_11)) fun t23 =>
  outK (bldSl Pg h_21 39 1 [(0, .agg t23)]) fun v24 h_32 =>
  outK (opAppend Pg h_32 39 39 t7 v24) fun v25 h_34 =>
  lett ((t16 : Int) == (lenS t0)) fun (t29 : Bool) =>
  lett (fun (t35 : Bool) (h_39 : AHeap) =>
   ifB t35
   (
    callN (call 65 [.int .i64 4, v25] h_39) fun r37 h_43 =>
    obind (avAgg r37) fun t37 =>
    obind (stRow h_43 6 t37 (newP h)) fun h_46 =>
    obind (ldRow h_46 6 (newP h)) fun w4_49 =>
    some (.ret (.tup [.agg w4_49, .int .i64 t16, .bool true]), h_46))
   (
    lett (IntKind.i64.wrap (t16 + 1)) fun (t40 : Int) =>
    self t40 v25 h_39)) fun j35 =>
  ifB t29
  (
   j35 true h_34)
  (
   obind (idxS t0 t16) fun t33 =>
   lett ((t33 : Int) != 124) fun (t34 : Bool) =>
   j35 t34 h_34))
noncomputable def ref09_alts_L0 (call : CallF) (t0 : Bytes) (h : AHeap) : Nat → Int → AV → AHeap → R := iterR (fun _ _ _ => none) (ref09_alts_L0b call t0 h)
theorem ref09_alts_L0_s (call : CallF) (t0 : Bytes) (h : AHeap) (m : Nat) : ref09_alts_L0 call t0 h (m + 1) = ref09_alts_L0b call t0 h (ref09_alts_L0 call t0 h m) := rfl
noncomputable def ref09_alts (call : CallF) (n : Nat) (t0 : Bytes) (t1 : Int) (h : AHeap) : R :=
 lett (newH h 41 [.int .i64 0, .int .u64 0, .int .u64 0, .int .u64 0, .int .u64 0, .nsl]) fun h_2 =>
 ref09_alts_L0 call t0 h n t1 AV.nsl h_2
theorem ref09_alts_ok {call : CallF} (hc : SaysAll Pg call) {n : Nat} {t0 : Bytes} {t1 : Int} {h : AHeap} {rR : ARes} {hR : AHeap} (z : ref09_alts call n t0 t1 h = some (rR, hR)) : Says Pg 43 [strA t0, .int .i64 t1] h rR hR := by
 unfold ref09_alts at z
 refine says_of (fn := Try.f43) Try.func43 (c := codeOf Try.f43) (by kernel_rfl) (by kernel_rfl) (fun w0 m0 => ?_)
 refine W.weaken (l' := [(0, strA t0), (1, .int .i64 t1)]) (Fr.c (Fr.c Fr.n)) ?_
 refine W.s (fun _ n1 _ _ p1 => ?_)
 refine W.r ?_
 replace z := lS z; obtain ⟨h_2, e3, z⟩ := z
 refine WL.val (d := (some 4)) (v := (newP h)) (h' := h_2) (by kernel_rfl) (by kernel_rfl) (val_ofH e3 (by kernel_rfl)) ?_
 refine WL.a (some 5) (.int .i64 0) h_2 ?_
 refine WL.a (some 6) (.bool false) h_2 ?_
 refine WL.n ?_
 refine Go.weaken (l' := [(0, strA t0), (1, .int .i64 t1), (4, newP h)]) (Fr.c (Fr.c (Fr.c Fr.n))) ?_
 refine n1 ?_
 refine W.s (fun _ n4 _ _ _ => ?_)
 refine W.r ?_
 refine WL.a (some 7) AV.nsl h_2 ?_
 refine WL.n ?_
 refine Go.weaken (l' := [(0, strA t0), (1, .int .i64 t1), (4, newP h), (7, AV.nsl)]) (Fr.c (Fr.c (Fr.c (Fr.c Fr.n)))) ?_
 refine n4 ?_
 refine W.blockK (by kernel_rfl) (fun K5 n5 s5 o5 q5 p5 => ?_)
 refine W.loopK (by kernel_rfl) (fun I6 K6 b6 n6 e6 q6 p6 => ?_)
 have L6 : ∀ (m : Nat) (t1_7 : Int) (t7 : AV) (h_8 : AHeap), ref09_alts_L0 call t0 h m t1_7 t7 h_8 = some (rR, hR) → Go w0 m0 (Func.ntmps Try.f43) I6 [(0, strA t0), (1, .int .i64 t1_7), (4, newP h), (7, t7)] [] h_8 := by
  intro m
  induction m with
  | zero => intro t1_7 t7 h_8 z; cases z
  | succ m ih6 =>
   intro t1_7 t7 h_8 z
   rw [ref09_alts_L0_s] at z; unfold ref09_alts_L0b at z
   refine b6 ?_
   refine W.blockK (by kernel_rfl) (fun K9 n9 s9 o9 q9 p9 => ?_)
   refine W.s (fun _ n10 _ _ _ => ?_)
   refine W.r ?_
   refine WL.a (some 12) (strA t0) h_8 ?_
   refine WL.a (some 13) (.int .i64 t1_7) h_8 ?_
   replace z := callN_some z; obtain ⟨r14, h_11, e12, z⟩ := z
   refine WL.c (hc.ok w0) (some 14) e12 ?_
   refine WL.a (some 11) r14 h_11 ?_
   replace z := oS z; obtain ⟨v15, e13, z⟩ := z
   replace z := oS z; obtain ⟨t15, c14, z⟩ := z
   have c14 := avAgg_some c14
   subst c14
   refine WL.b (some 15) (.agg t15) h_11 (extract_tup (h := h_11) e13) ?_
   replace z := oS z; obtain ⟨v16, e15, z⟩ := z
   replace z := oS z; obtain ⟨t16, c16, z⟩ := z
   have c16 := avInt_some c16
   subst c16
   refine WL.b (some 16) (.int .i64 t16) h_11 (extract_tup (h := h_11) e15) ?_
   replace z := oS z; obtain ⟨v17, e17, z⟩ := z
   replace z := oS z; obtain ⟨t17, c18, z⟩ := z
   have c18 := avBool_some c18
   subst c18
   refine WL.b (some 17) (.bool t17) h_11 (extract_tup (h := h_11) e17) ?_
   replace z := lS z; obtain ⟨h_19, e20, z⟩ := z
   refine WL.val (d := (some 8)) (v := (newP h_11)) (h' := h_19) (by kernel_rfl) (by kernel_rfl) (val_ofH e20 (by kernel_rfl)) ?_
   replace z := oS z; obtain ⟨h_21, e22, z⟩ := z
   refine WL.e h_21 (store_row (P := Pg) (h := h_19) (t := 41) (v := (.agg t15)) (by kernel_rfl) (by kernel_rfl) e22) ?_
   refine WL.a (some 9) (.int .i64 t16) h_21 ?_
   refine WL.a (some 10) (.bool t17) h_21 ?_
   refine WL.n ?_
   refine Go.weaken (l' := [(0, strA t0), (4, newP h), (7, t7), (8, newP h_11), (9, .int .i64 t16), (10, .bool t17)]) (Fr.c (Fr.c (Fr.c (Fr.c (Fr.c (Fr.c Fr.n)))))) ?_
   refine n10 ?_
   refine W.s (fun _ n23 _ q23 _ => ?_)
   refine W.s (fun _ n24 _ _ _ => ?_)
   refine W.r ?_
   refine WL.a (some 18) (.bool t17) h_21 ?_
   replace z := lS z; obtain ⟨t19, e25, z⟩ := z
   refine WL.val (d := (some 19)) (v := .bool t19) (h' := h_21) (by kernel_rfl) (by kernel_rfl) (val_of AV.bool e25 (by kernel_rfl)) ?_
   refine WL.n ?_
   refine Go.weaken (l' := [(0, strA t0), (4, newP h), (7, t7), (8, newP h_11), (9, .int .i64 t16), (19, .bool t19)]) (Fr.c (Fr.c (Fr.c (Fr.c (Fr.c (Fr.c Fr.n)))))) ?_
   refine n24 ?_
   cases t19 with
   | true =>
    replace z := ifB_t z
    refine W.t ?_
    refine W.s (fun _ n26 _ _ _ => ?_)
    refine W.r ?_
    refine WL.a (some 20) (.agg ([.int .i64 0, .int .u64 0, .int .u64 0, .int .u64 0, .int .u64 0, .nsl] : List AV)) h_21 ?_
    refine WL.a (some 21) (.int .i64 t16) h_21 ?_
    replace z := oS z; obtain ⟨h_27, e28, z⟩ := z
    refine WL.e h_27 (store_row (P := Pg) (h := h_21) (t := 41) (v := (.agg ([.int .i64 0, .int .u64 0, .int .u64 0, .int .u64 0, .int .u64 0, .nsl] : List AV))) (by kernel_rfl) (by kernel_rfl) e28) ?_
    refine WL.a (some 5) (.int .i64 t16) h_27 ?_
    refine WL.a (some 6) (.bool false) h_27 ?_
    refine WL.n ?_
    refine Go.weaken (l' := [(4, newP h), (5, .int .i64 t16), (6, .bool false)]) (Fr.c (Fr.c (Fr.c Fr.n))) ?_
    refine n26 ?_
    refine W.ret (by kernel_rfl) ?_
    refine q23 ?_
    refine q9 ?_
    refine q6 ?_
    refine q5 ?_
    replace z := oS z; obtain ⟨w4, e29, z⟩ := z
    obtain ⟨z, hF2⟩ := ret_inj z; subst z; subst hF2
    exact leave_of (rs := [.cell 4 41, .tmp 5, .tmp 6]) (vs := [.agg w4, .int .i64 t16, .bool false]) (by kernel_rfl) (res_cell (by kernel_rfl) (load_row (P := Pg) (h := h_27) (t := 41) (by kernel_rfl) (by kernel_rfl) e29) (res_tmp (by kernel_rfl) (res_tmp (by kernel_rfl) res_nil))) (by kernel_rfl)
   | false =>
    replace z := ifB_f z
    refine W.f ?_
    refine W.skip (by kernel_rfl) ?_
    refine n23 ?_
    refine W.s (fun _ n30 _ _ _ => ?_)
    refine W.r ?_
    refine WL.a (some 22) t7 h_21 ?_
    replace z := oS z; obtain ⟨t23, e31, z⟩ := z
    refine WL.b (some 23) (.agg t23) h_21 (load_row (P := Pg) (h := h_21) (t := 41) (by kernel_rfl) (by kernel_rfl) e31) ?_
    replace z := outK_some z; obtain ⟨v24, h_32, e33, z⟩ := z
    refine WL.b (some 24) v24 h_32 e33 ?_
    replace z := outK_some z; obtain ⟨v25, h_34, e35, z⟩ := z
    refine WL.b (some 25) v25 h_34 e35 ?_
    refine WL.a (some 7) v25 h_34 ?_
    refine WL.n ?_
    refine Go.weaken (l' := [(0, strA t0), (4, newP h), (7, v25), (9, .int .i64 t16)]) (Fr.c (Fr.c (Fr.c (Fr.c Fr.n)))) ?_
    refine n30 ?_
    refine W.s (fun _ n36 _ q36 _ => ?_)
    refine W.s (fun K37 n37 _ _ _ => ?_)
    refine W.r ?_
    refine WL.a (some 26) (.int .i64 t16) h_34 ?_
    refine WL.a (some 27) (strA t0) h_34 ?_
    refine WL.a (some 28) (.int .i64 (lenS t0)) h_34 ?_
    replace z := lS z; obtain ⟨t29, e38, z⟩ := z
    refine WL.val (d := (some 29)) (v := .bool t29) (h' := h_34) (by kernel_rfl) (by kernel_rfl) (val_of AV.bool e38 (by kernel_rfl)) ?_
    refine WL.a (some 30) (.bool t29) h_34 ?_
    replace z := lS z; obtain ⟨j35, e40, z⟩ := z
    have J41 : ∀ (t35 : Bool) (h_39 : AHeap), j35 t35 h_39 = some (rR, hR) → WL Pg w0 m0 (Func.ntmps Try.f43) (Code.ops (Code.p1 (Code.p1 (Code.p2 (Code.p2 (Code.p2 (Code.p1 (Code.p1 (Code.p1 (Code.p2 (Code.p2 (codeOf Try.f43)))))))))))) 10 K37 [(0, strA t0), (4, newP h), (7, v25), (9, .int .i64 t16), (35, .bool t35)] [] h_39 := by
     intro t35 h_39 z
     rw [e40] at z
     refine WL.n ?_
     refine Go.weaken (l' := [(0, strA t0), (4, newP h), (7, v25), (9, .int .i64 t16), (35, .bool t35)]) (Fr.c (Fr.c (Fr.c (Fr.c (Fr.c Fr.n))))) ?_
     refine n37 ?_
     cases t35 with
     | true =>
      replace z := ifB_t z
      refine W.t ?_
      refine W.s (fun _ n42 _ _ _ => ?_)
      refine W.r ?_
      refine WL.a (some 36) v25 h_39 ?_
      replace z := callN_some z; obtain ⟨r37, h_43, e44, z⟩ := z
      replace z := oS z; obtain ⟨t37, c45, z⟩ := z
      have c45 := avAgg_some c45
      subst c45
      refine WL.c (hc.ok w0) (some 37) e44 ?_
      refine WL.a (some 38) (.int .i64 t16) h_43 ?_
      replace z := oS z; obtain ⟨h_46, e47, z⟩ := z
      refine WL.e h_46 (store_row (P := Pg) (h := h_43) (t := 41) (v := (.agg t37)) (by kernel_rfl) (by kernel_rfl) e47) ?_
      refine WL.a (some 5) (.int .i64 t16) h_46 ?_
      refine WL.a (some 6) (.bool true) h_46 ?_
      refine WL.n ?_
      refine Go.weaken (l' := [(4, newP h), (5, .int .i64 t16), (6, .bool true)]) (Fr.c (Fr.c (Fr.c Fr.n))) ?_
      refine n42 ?_
      refine W.ret (by kernel_rfl) ?_
      refine q36 ?_
      refine q9 ?_
      refine q6 ?_
      refine q5 ?_
      replace z := oS z; obtain ⟨w4_49, e48, z⟩ := z
      obtain ⟨z, hF2⟩ := ret_inj z; subst z; subst hF2
      exact leave_of (rs := [.cell 4 41, .tmp 5, .tmp 6]) (vs := [.agg w4_49, .int .i64 t16, .bool true]) (by kernel_rfl) (res_cell (by kernel_rfl) (load_row (P := Pg) (h := h_46) (t := 41) (by kernel_rfl) (by kernel_rfl) e48) (res_tmp (by kernel_rfl) (res_tmp (by kernel_rfl) res_nil))) (by kernel_rfl)
     | false =>
      replace z := ifB_f z
      refine W.f ?_
      refine W.skip (by kernel_rfl) ?_
      refine n36 ?_
      refine W.r ?_
      refine WL.a (some 39) (.int .i64 t16) h_39 ?_
      replace z := lS z; obtain ⟨t40, e50, z⟩ := z
      refine WL.val (d := (some 40)) (v := .int .i64 t40) (h' := h_39) (by kernel_rfl) (by kernel_rfl) (val_of (AV.int .i64) e50 (by kernel_rfl)) ?_
      refine WL.a (some 1) (.int .i64 t40) h_39 ?_
      refine WL.n ?_
      refine Go.weaken (l' := [(0, strA t0), (1, .int .i64 t40), (4, newP h), (7, v25)]) (Fr.c (Fr.c (Fr.c (Fr.c Fr.n)))) ?_
      refine n9 ?_
      refine n6 ?_
      exact Go.weaken (Fr.c (Fr.c (Fr.c (Fr.c Fr.n)))) (ih6 _ _ _ z)
    cases t29 with
    | true =>
     replace z := ifB_t z
     refine WL.o (some 31) ?_
     refine WL.o (some 32) ?_
     refine WL.o (some 33) ?_
     refine WL.o (some 34) ?_
     refine WL.a (some 35) (.bool true) h_34 ?_
     exact WL.weaken (Fr.c (Fr.c (Fr.c (Fr.c (Fr.c Fr.n))))) (J41 _ _ z)
    | false =>
     replace z := ifB_f z
     refine WL.a (some 31) (strA t0) h_34 ?_
     refine WL.a (some 32) (.int .i64 t16) h_34 ?_
     replace z := oS z; obtain ⟨t33, e51, z⟩ := z
     refine WL.b (some 33) (.int .u8 t33) h_34 (index_str (P := Pg) (h := h_34) (t := 9) (k := .i64) (by kernel_rfl) e51) ?_
     replace z := lS z; obtain ⟨t34, e52, z⟩ := z
     refine WL.val (d := (some 34)) (v := .bool t34) (h' := h_34) (by kernel_rfl) (by kernel_rfl) (val_of AV.bool e52 (by kernel_rfl)) ?_
     refine WL.a (some 35) (.bool t34) h_34 ?_
     exact WL.weaken (Fr.c (Fr.c (Fr.c (Fr.c (Fr.c Fr.n))))) (J41 _ _ z)
 exact Go.weaken (Fr.c (Fr.c (Fr.c (Fr.c Fr.n)))) (L6 _ _ _ _ z)
noncomputable def ref09_alts_fn (call : CallF) (n : Nat) : FnT := fun args h => match args with
 | [x0, x1] => obind (avStr x0) fun t0 => obind (avInt .i64 x1) fun t1 => ref09_alts call n t0 t1 h
 | _ => none
set_option maxRecDepth 100000 in
theorem ref09_alts_fn_eq (call : CallF) (n : Nat) (t0 : Bytes) (t1 : Int) (h : AHeap) : ref09_alts_fn call n [strA t0, .int .i64 t1] h = ref09_alts call n t0 t1 h :=
 (Eq.trans (obind_eq (fun t0 => obind (avInt .i64 (.int .i64 t1)) fun t1 => ref09_alts call n t0 t1 h) (avStr_str t0)) (Eq.trans (obind_eq (fun t1 => ref09_alts call n t0 t1 h) (avInt_int .i64 t1)) rfl))
theorem ref09_alts_holds {call : CallF} (hc : SaysAll Pg call) (n : Nat) : Holds Pg 43 (ref09_alts_fn call n) := by
 intro args h r h2 e
 unfold ref09_alts_fn at e
 split at e
 ·replace e := oS e; obtain ⟨t0, c0, e⟩ := e; have c0 := avStr_some c0; subst c0
  replace e := oS e; obtain ⟨t1, c1, e⟩ := e; have c1 := avInt_some c1; subst c1
  exact ref09_alts_ok hc e
 ·cases e
noncomputable def ref09_row_L0b (call : CallF) (t0 : Bytes) (h : AHeap) (k7 : Int → AV → AHeap → R) (self : Int → AV → AHeap → R) (t1_18 : Int) (t7_19 : AV) (h_20 : AHeap) : R :=
 lett (decide (t1_18 < (lenS t0))) fun (t15 : Bool) =>
 lett (fun (t21 : Bool) (h_24 : AHeap) =>
  lett (fun (t27 : Bool) (h_27 : AHeap) =>
   ifB t27
   (
    callN (call 80 [strA t0, .int .i64 t1_18] h_27) fun r31 h_32 =>
    obind (extT 0 r31) fun v32 =>
    obind (avAgg v32) fun t32 =>
    obind (extT 1 r31) fun v33 =>
    obind (avInt .i64 v33) fun t33 =>
    obind (extT 2 r31) fun v34 =>
    obind (avBool v34) fun t34 =>
    lett (newH h_32 41 [.int .i64 0, .int .u64 0, .int .u64 0, .int .u64 0, .int .u64 0, .nsl]) fun h_40 =>
    obind (stRow h_40 6 t32 (newP h_32)) fun h_42 =>
    lett (!t34) fun (t36 : Bool) =>
    ifB t36
    (
     obind (stRow h_42 6 ([.int .i64 0, .int .u64 0, .int .u64 0, .int .u64 0, .int .u64 0, .nsl] : List AV) (newP h)) fun h_48 =>
     obind (ldRow h_48 6 (newP h)) fun w4_51 =>
     some (.ret (.tup [.agg w4_51, .int .i64 t33, .bool false]), h_48))
    (
     lett (decide (t33 < (lenS t0))) fun (t43 : Bool) =>
     lett (fun (t11 : Int) (h_58 : AHeap) =>
      lett (decide (t11 > 0)) fun (t54 : Bool) =>
      lett (fun (t1_63 : Int) (h_64 : AHeap) =>
       obind (ldRow h_64 6 (newP h_32)) fun t62 =>
       outK (bldSl Pg h_64 39 1 [(0, .agg t62)]) fun v63 h_66 =>
       outK (opAppend Pg h_66 39 39 t7_19 v63) fun v64 h_68 =>
       self t1_63 v64 h_68) fun k62 =>
      ifB t54
      (
       obind (ldRow h_58 6 (newP h_32)) fun t56 =>
       outK (bldSl Pg h_58 39 1 [(0, .agg t56)]) fun v57 h_72 =>
       obind (bldS Pg 41 [(0, .int .i64 t11), (2, v57)]) fun t58 =>
       obind (stRow h_72 6 t58 (newP h_32)) fun h_75 =>
       lett (IntKind.i64.wrap (t33 + 1)) fun (t60 : Int) =>
       k62 t60 h_75)
      (
       k62 t33 h_58)) fun k57 =>
     ifB t43
     (
      obind (idxS t0 t33) fun t46 =>
      lett ((t46 : Int) == 42) fun (t48 : Bool) =>
      lett (fun (t11_84 : Int) (h_85 : AHeap) =>
       k57 t11_84 h_85) fun k83 =>
      ifB t48
      (
       k83 5 h_42)
      (
       lett ((t46 : Int) == 43) fun (t50 : Bool) =>
       lett (fun (t11_89 : Int) (h_90 : AHeap) =>
        k83 t11_89 h_90) fun k88 =>
       ifB t50
       (
        k88 6 h_42)
       (
        lett ((t46 : Int) == 63) fun (t52 : Bool) =>
        lett (fun (t11_94 : Int) (h_95 : AHeap) =>
         k88 t11_94 h_95) fun k93 =>
        ifB t52
        (
         k93 7 h_42)
        (
         k93 0 h_42))))
     (
      k57 0 h_42)))
   (
    k7 t1_18 t7_19 h_27)) fun j27 =>
  ifB t21
  (
   obind (idxS t0 t1_18) fun t25 =>
   lett ((t25 : Int) != 41) fun (t26 : Bool) =>
   j27 t26 h_24)
  (
   j27 false h_24)) fun j21 =>
 ifB t15
 (
  obind (idxS t0 t1_18) fun t19 =>
  lett ((t19 : Int) != 124) fun (t20 : Bool) =>
  j21 t20 h_20)
 (
  j21 false h_20)
noncomputable def ref09_row_L0 (call : CallF) (t0 : Bytes) (h : AHeap) (k7 : Int → AV → AHeap → R) : Nat → Int → AV → AHeap → R := iterR (fun _ _ _ => none) (ref09_row_L0b call t0 h k7)
theorem ref09_row_L0_s (call : CallF) (t0 : Bytes) (h : AHeap) (k7 : Int → AV → AHeap → R) (m : Nat) : ref09_row_L0 call t0 h k7 (m + 1) = ref09_row_L0b call t0 h k7 (ref09_row_L0 call t0 h k7 m) := rfl
noncomputable def ref09_row (call : CallF) (n : Nat) (t0 : Bytes) (t1 : Int) (h : AHeap) : R :=
 lett (newH h 41 [.int .i64 0, .int .u64 0, .int .u64 0, .int .u64 0, .int .u64 0, .nsl]) fun h_2 =>
 lett (fun (t1_8 : Int) (t7 : AV) (h_9 : AHeap) =>
  callN (call 65 [.int .i64 3, t7] h_9) fun r66 h_11 =>
  obind (avAgg r66) fun t66 =>
  obind (stRow h_11 6 t66 (newP h)) fun h_14 =>
  obind (ldRow h_14 6 (newP h)) fun w4 =>
  some (.ret (.tup [.agg w4, .int .i64 t1_8, .bool true]), h_14)) fun k7 =>
 ref09_row_L0 call t0 h k7 n t1 AV.nsl h_2
theorem ref09_row_ok {call : CallF} (hc : SaysAll Pg call) {n : Nat} {t0 : Bytes} {t1 : Int} {h : AHeap} {rR : ARes} {hR : AHeap} (z : ref09_row call n t0 t1 h = some (rR, hR)) : Says Pg 67 [strA t0, .int .i64 t1] h rR hR := by
 unfold ref09_row at z
 refine says_of (fn := Try.f67) Try.func67 (c := codeOf Try.f67) (by kernel_rfl) (by kernel_rfl) (fun w0 m0 => ?_)
 refine W.weaken (l' := [(0, strA t0), (1, .int .i64 t1)]) (Fr.c (Fr.c Fr.n)) ?_
 refine W.s (fun _ n1 _ _ p1 => ?_)
 refine W.r ?_
 replace z := lS z; obtain ⟨h_2, e3, z⟩ := z
 refine WL.val (d := (some 4)) (v := (newP h)) (h' := h_2) (by kernel_rfl) (by kernel_rfl) (val_ofH e3 (by kernel_rfl)) ?_
 refine WL.a (some 5) (.int .i64 0) h_2 ?_
 refine WL.a (some 6) (.bool false) h_2 ?_
 refine WL.n ?_
 refine Go.weaken (l' := [(0, strA t0), (1, .int .i64 t1), (4, newP h)]) (Fr.c (Fr.c (Fr.c Fr.n))) ?_
 refine n1 ?_
 refine W.s (fun _ n4 _ _ _ => ?_)
 refine W.r ?_
 refine WL.a (some 7) AV.nsl h_2 ?_
 refine WL.n ?_
 refine Go.weaken (l' := [(0, strA t0), (1, .int .i64 t1), (4, newP h), (7, AV.nsl)]) (Fr.c (Fr.c (Fr.c (Fr.c Fr.n)))) ?_
 refine n4 ?_
 refine W.s (fun K5 n5 _ q5 _ => ?_)
 replace z := lS z; obtain ⟨k7, e7, z⟩ := z
 have J7 : ∀ (t1_8 : Int) (t7 : AV) (h_9 : AHeap), k7 t1_8 t7 h_9 = some (rR, hR) → Go w0 m0 (Func.ntmps Try.f67) (K5 .normal) [(1, .int .i64 t1_8), (4, newP h), (7, t7)] [] h_9 := by
  intro t1_8 t7 h_9 z
  rw [e7] at z
  refine n5 ?_
  refine W.s (fun _ n10 _ _ _ => ?_)
  refine W.r ?_
  refine WL.a (some 65) t7 h_9 ?_
  replace z := callN_some z; obtain ⟨r66, h_11, e12, z⟩ := z
  replace z := oS z; obtain ⟨t66, c13, z⟩ := z
  have c13 := avAgg_some c13
  subst c13
  refine WL.c (hc.ok w0) (some 66) e12 ?_
  refine WL.a (some 67) (.int .i64 t1_8) h_11 ?_
  replace z := oS z; obtain ⟨h_14, e15, z⟩ := z
  refine WL.e h_14 (store_row (P := Pg) (h := h_11) (t := 41) (v := (.agg t66)) (by kernel_rfl) (by kernel_rfl) e15) ?_
  refine WL.a (some 5) (.int .i64 t1_8) h_14 ?_
  refine WL.a (some 6) (.bool true) h_14 ?_
  refine WL.n ?_
  refine Go.weaken (l' := [(4, newP h), (5, .int .i64 t1_8), (6, .bool true)]) (Fr.c (Fr.c (Fr.c Fr.n))) ?_
  refine n10 ?_
  refine W.ret (by kernel_rfl) ?_
  replace z := oS z; obtain ⟨w4, e16, z⟩ := z
  obtain ⟨z, hF2⟩ := ret_inj z; subst z; subst hF2
  exact leave_of (rs := [.cell 4 41, .tmp 5, .tmp 6]) (vs := [.agg w4, .int .i64 t1_8, .bool true]) (by kernel_rfl) (res_cell (by kernel_rfl) (load_row (P := Pg) (h := h_14) (t := 41) (by kernel_rfl) (by kernel_rfl) e16) (res_tmp (by kernel_rfl) (res_tmp (by kernel_rfl) res_nil))) (by kernel_rfl)
 refine W.blockK (by kernel_rfl) (fun K6 n6 s6 o6 q6 p6 => ?_)
 refine W.loopK (by kernel_rfl) (fun I17 K17 b17 n17 e17 q17 p17 => ?_)
 have L17 : ∀ (m : Nat) (t1_18 : Int) (t7_19 : AV) (h_20 : AHeap), ref09_row_L0 call t0 h k7 m t1_18 t7_19 h_20 = some (rR, hR) → Go w0 m0 (Func.ntmps Try.f67) I17 [(0, strA t0), (1, .int .i64 t1_18), (4, newP h), (7, t7_19)] [] h_20 := by
  intro m
  induction m with
  | zero => intro t1_18 t7_19 h_20 z; cases z
  | succ m ih17 =>
   intro t1_18 t7_19 h_20 z
   rw [ref09_row_L0_s] at z; unfold ref09_row_L0b at z
   refine b17 ?_
   refine W.s (fun _ n21 e21 _ _ => ?_)
   refine W.s (fun K22 n22 _ _ _ => ?_)
   refine W.r ?_
   refine WL.a (some 12) (.int .i64 t1_18) h_20 ?_
   refine WL.a (some 13) (strA t0) h_20 ?_
   refine WL.a (some 14) (.int .i64 (lenS t0)) h_20 ?_
   replace z := lS z; obtain ⟨t15, e23, z⟩ := z
   refine WL.val (d := (some 15)) (v := .bool t15) (h' := h_20) (by kernel_rfl) (by kernel_rfl) (val_of AV.bool e23 (by kernel_rfl)) ?_
   refine WL.a (some 16) (.bool t15) h_20 ?_
   replace z := lS z; obtain ⟨j21, e25, z⟩ := z
   have J26 : ∀ (t21 : Bool) (h_24 : AHeap), j21 t21 h_24 = some (rR, hR) → WL Pg w0 m0 (Func.ntmps Try.f67) (Code.ops (Code.p1 (Code.p1 (Code.p1 (Code.p1 (Code.p1 (Code.p2 (Code.p2 (codeOf Try.f67))))))))) 10 K22 [(0, strA t0), (1, .int .i64 t1_18), (4, newP h), (7, t7_19), (21, .bool t21)] [] h_24 := by
    intro t21 h_24 z
    rw [e25] at z
    refine WL.a (some 22) (.bool t21) h_24 ?_
    replace z := lS z; obtain ⟨j27, e28, z⟩ := z
    have J29 : ∀ (t27 : Bool) (h_27 : AHeap), j27 t27 h_27 = some (rR, hR) → WL Pg w0 m0 (Func.ntmps Try.f67) (Code.ops (Code.p1 (Code.p1 (Code.p1 (Code.p1 (Code.p1 (Code.p2 (Code.p2 (codeOf Try.f67))))))))) 16 K22 [(0, strA t0), (1, .int .i64 t1_18), (4, newP h), (7, t7_19), (27, .bool t27)] [] h_27 := by
     intro t27 h_27 z
     rw [e28] at z
     refine WL.n ?_
     refine Go.weaken (l' := [(0, strA t0), (1, .int .i64 t1_18), (4, newP h), (7, t7_19), (27, .bool t27)]) (Fr.c (Fr.c (Fr.c (Fr.c (Fr.c Fr.n))))) ?_
     refine n22 ?_
     cases t27 with
     | true =>
      replace z := ifB_t z
      refine W.t ?_
      refine W.skip (by kernel_rfl) ?_
      refine n21 ?_
      refine W.blockK (by kernel_rfl) (fun K30 n30 s30 o30 q30 p30 => ?_)
      refine W.s (fun _ n31 _ _ _ => ?_)
      refine W.r ?_
      refine WL.a (some 29) (strA t0) h_27 ?_
      refine WL.a (some 30) (.int .i64 t1_18) h_27 ?_
      replace z := callN_some z; obtain ⟨r31, h_32, e33, z⟩ := z
      refine WL.c (hc.ok w0) (some 31) e33 ?_
      refine WL.a (some 28) r31 h_32 ?_
      replace z := oS z; obtain ⟨v32, e34, z⟩ := z
      replace z := oS z; obtain ⟨t32, c35, z⟩ := z
      have c35 := avAgg_some c35
      subst c35
      refine WL.b (some 32) (.agg t32) h_32 (extract_tup (h := h_32) e34) ?_
      replace z := oS z; obtain ⟨v33, e36, z⟩ := z
      replace z := oS z; obtain ⟨t33, c37, z⟩ := z
      have c37 := avInt_some c37
      subst c37
      refine WL.b (some 33) (.int .i64 t33) h_32 (extract_tup (h := h_32) e36) ?_
      replace z := oS z; obtain ⟨v34, e38, z⟩ := z
      replace z := oS z; obtain ⟨t34, c39, z⟩ := z
      have c39 := avBool_some c39
      subst c39
      refine WL.b (some 34) (.bool t34) h_32 (extract_tup (h := h_32) e38) ?_
      replace z := lS z; obtain ⟨h_40, e41, z⟩ := z
      refine WL.val (d := (some 8)) (v := (newP h_32)) (h' := h_40) (by kernel_rfl) (by kernel_rfl) (val_ofH e41 (by kernel_rfl)) ?_
      replace z := oS z; obtain ⟨h_42, e43, z⟩ := z
      refine WL.e h_42 (store_row (P := Pg) (h := h_40) (t := 41) (v := (.agg t32)) (by kernel_rfl) (by kernel_rfl) e43) ?_
      refine WL.a (some 9) (.int .i64 t33) h_42 ?_
      refine WL.a (some 10) (.bool t34) h_42 ?_
      refine WL.n ?_
      refine Go.weaken (l' := [(0, strA t0), (4, newP h), (7, t7_19), (8, newP h_32), (9, .int .i64 t33), (10, .bool t34)]) (Fr.c (Fr.c (Fr.c (Fr.c (Fr.c (Fr.c Fr.n)))))) ?_
      refine n31 ?_
      refine W.s (fun _ n44 _ q44 _ => ?_)
      refine W.s (fun _ n45 _ _ _ => ?_)
      refine W.r ?_
      refine WL.a (some 35) (.bool t34) h_42 ?_
      replace z := lS z; obtain ⟨t36, e46, z⟩ := z
      refine WL.val (d := (some 36)) (v := .bool t36) (h' := h_42) (by kernel_rfl) (by kernel_rfl) (val_of AV.bool e46 (by kernel_rfl)) ?_
      refine WL.n ?_
      refine Go.weaken (l' := [(0, strA t0), (4, newP h), (7, t7_19), (8, newP h_32), (9, .int .i64 t33), (36, .bool t36)]) (Fr.c (Fr.c (Fr.c (Fr.c (Fr.c (Fr.c Fr.n)))))) ?_
      refine n45 ?_
      cases t36 with
      | true =>
       replace z := ifB_t z
       refine W.t ?_
       refine W.s (fun _ n47 _ _ _ => ?_)
       refine W.r ?_
       refine WL.a (some 37) (.agg ([.int .i64 0, .int .u64 0, .int .u64 0, .int .u64 0, .int .u64 0, .nsl] : List AV)) h_42 ?_
       refine WL.a (some 38) (.int .i64 t33) h_42 ?_
       replace z := oS z; obtain ⟨h_48, e49, z⟩ := z
       refine WL.e h_48 (store_row (P := Pg) (h := h_42) (t := 41) (v := (.agg ([.int .i64 0, .int .u64 0, .int .u64 0, .int .u64 0, .int .u64 0, .nsl] : List AV))) (by kernel_rfl) (by kernel_rfl) e49) ?_
       refine WL.a (some 5) (.int .i64 t33) h_48 ?_
       refine WL.a (some 6) (.bool false) h_48 ?_
       refine WL.n ?_
       refine Go.weaken (l' := [(4, newP h), (5, .int .i64 t33), (6, .bool false)]) (Fr.c (Fr.c (Fr.c Fr.n))) ?_
       refine n47 ?_
       refine W.ret (by kernel_rfl) ?_
       refine q44 ?_
       refine q30 ?_
       refine q17 ?_
       refine q6 ?_
       refine q5 ?_
       replace z := oS z; obtain ⟨w4_51, e50, z⟩ := z
       obtain ⟨z, hF2⟩ := ret_inj z; subst z; subst hF2
       exact leave_of (rs := [.cell 4 41, .tmp 5, .tmp 6]) (vs := [.agg w4_51, .int .i64 t33, .bool false]) (by kernel_rfl) (res_cell (by kernel_rfl) (load_row (P := Pg) (h := h_48) (t := 41) (by kernel_rfl) (by kernel_rfl) e50) (res_tmp (by kernel_rfl) (res_tmp (by kernel_rfl) res_nil))) (by kernel_rfl)
      | false =>
       replace z := ifB_f z
       refine W.f ?_
       refine W.skip (by kernel_rfl) ?_
       refine n44 ?_
       refine W.s (fun _ n52 _ _ _ => ?_)
       refine W.r ?_
       refine WL.a (some 39) (.int .i64 t33) h_42 ?_
       refine WL.a (some 1) (.int .i64 t33) h_42 ?_
       refine WL.n ?_
       refine Go.weaken (l' := [(0, strA t0), (1, .int .i64 t33), (4, newP h), (7, t7_19), (8, newP h_32)]) (Fr.c (Fr.c (Fr.c (Fr.c (Fr.c Fr.n))))) ?_
       refine n52 ?_
       refine W.s (fun _ n53 _ _ _ => ?_)
       refine W.r ?_
       refine WL.a (some 11) (.int .i64 0) h_42 ?_
       refine WL.n ?_
       refine Go.weaken (l' := [(0, strA t0), (1, .int .i64 t33), (4, newP h), (7, t7_19), (8, newP h_32), (11, .int .i64 0)]) (Fr.c (Fr.c (Fr.c (Fr.c (Fr.c (Fr.c Fr.n)))))) ?_
       refine n53 ?_
       refine W.s (fun K54 n54 _ _ _ => ?_)
       refine W.s (fun _ n55 _ _ _ => ?_)
       refine W.r ?_
       refine WL.a (some 40) (.int .i64 t33) h_42 ?_
       refine WL.a (some 41) (strA t0) h_42 ?_
       refine WL.a (some 42) (.int .i64 (lenS t0)) h_42 ?_
       replace z := lS z; obtain ⟨t43, e56, z⟩ := z
       refine WL.val (d := (some 43)) (v := .bool t43) (h' := h_42) (by kernel_rfl) (by kernel_rfl) (val_of AV.bool e56 (by kernel_rfl)) ?_
       refine WL.n ?_
       refine Go.weaken (l' := [(0, strA t0), (1, .int .i64 t33), (4, newP h), (7, t7_19), (8, newP h_32), (11, .int .i64 0), (43, .bool t43)]) (Fr.c (Fr.c (Fr.c (Fr.c (Fr.c (Fr.c (Fr.c Fr.n))))))) ?_
       refine n55 ?_
       replace z := lS z; obtain ⟨k57, e57, z⟩ := z
       have J57 : ∀ (t11 : Int) (h_58 : AHeap), k57 t11 h_58 = some (rR, hR) → Go w0 m0 (Func.ntmps Try.f67) (K54 .normal) [(0, strA t0), (1, .int .i64 t33), (4, newP h), (7, t7_19), (8, newP h_32), (11, .int .i64 t11)] [] h_58 := by
        intro t11 h_58 z
        rw [e57] at z
        refine n54 ?_
        refine W.s (fun K59 n59 _ _ _ => ?_)
        refine W.s (fun _ n60 _ _ _ => ?_)
        refine W.r ?_
        refine WL.a (some 53) (.int .i64 t11) h_58 ?_
        replace z := lS z; obtain ⟨t54, e61, z⟩ := z
        refine WL.val (d := (some 54)) (v := .bool t54) (h' := h_58) (by kernel_rfl) (by kernel_rfl) (val_of AV.bool e61 (by kernel_rfl)) ?_
        refine WL.n ?_
        refine Go.weaken (l' := [(0, strA t0), (1, .int .i64 t33), (4, newP h), (7, t7_19), (8, newP h_32), (11, .int .i64 t11), (54, .bool t54)]) (Fr.c (Fr.c (Fr.c (Fr.c (Fr.c (Fr.c (Fr.c Fr.n))))))) ?_
        refine n60 ?_
        replace z := lS z; obtain ⟨k62, e62, z⟩ := z
        have J62 : ∀ (t1_63 : Int) (h_64 : AHeap), k62 t1_63 h_64 = some (rR, hR) → Go w0 m0 (Func.ntmps Try.f67) (K59 .normal) [(0, strA t0), (1, .int .i64 t1_63), (4, newP h), (7, t7_19), (8, newP h_32)] [] h_64 := by
         intro t1_63 h_64 z
         rw [e62] at z
         refine n59 ?_
         refine W.r ?_
         refine WL.a (some 61) t7_19 h_64 ?_
         replace z := oS z; obtain ⟨t62, e65, z⟩ := z
         refine WL.b (some 62) (.agg t62) h_64 (load_row (P := Pg) (h := h_64) (t := 41) (by kernel_rfl) (by kernel_rfl) e65) ?_
         replace z := outK_some z; obtain ⟨v63, h_66, e67, z⟩ := z
         refine WL.b (some 63) v63 h_66 e67 ?_
         replace z := outK_some z; obtain ⟨v64, h_68, e69, z⟩ := z
         refine WL.b (some 64) v64 h_68 e69 ?_
         refine WL.a (some 7) v64 h_68 ?_
         refine WL.n ?_
         refine Go.weaken (l' := [(0, strA t0), (1, .int .i64 t1_63), (4, newP h), (7, v64)]) (Fr.c (Fr.c (Fr.c (Fr.c Fr.n)))) ?_
         refine n30 ?_
         refine n17 ?_
         exact Go.weaken (Fr.c (Fr.c (Fr.c (Fr.c Fr.n)))) (ih17 _ _ _ z)
        cases t54 with
        | true =>
         replace z := ifB_t z
         refine W.t ?_
         refine W.s (fun _ n70 _ _ _ => ?_)
         refine W.r ?_
         refine WL.a (some 55) (.int .i64 t11) h_58 ?_
         replace z := oS z; obtain ⟨t56, e71, z⟩ := z
         refine WL.b (some 56) (.agg t56) h_58 (load_row (P := Pg) (h := h_58) (t := 41) (by kernel_rfl) (by kernel_rfl) e71) ?_
         replace z := outK_some z; obtain ⟨v57, h_72, e73, z⟩ := z
         refine WL.b (some 57) v57 h_72 e73 ?_
         replace z := oS z; obtain ⟨t58, e74, z⟩ := z
         refine WL.val (d := (some 58)) (v := .agg t58) (h' := h_72) (by kernel_rfl) (by kernel_rfl) (bld_ok (by kernel_rfl) e74) ?_
         replace z := oS z; obtain ⟨h_75, e76, z⟩ := z
         refine WL.e h_75 (store_row (P := Pg) (h := h_72) (t := 41) (v := (.agg t58)) (by kernel_rfl) (by kernel_rfl) e76) ?_
         refine WL.n ?_
         refine Go.weaken (l' := [(0, strA t0), (1, .int .i64 t33), (4, newP h), (7, t7_19), (8, newP h_32)]) (Fr.c (Fr.c (Fr.c (Fr.c (Fr.c Fr.n))))) ?_
         refine n70 ?_
         refine W.r ?_
         refine WL.a (some 59) (.int .i64 t33) h_75 ?_
         replace z := lS z; obtain ⟨t60, e77, z⟩ := z
         refine WL.val (d := (some 60)) (v := .int .i64 t60) (h' := h_75) (by kernel_rfl) (by kernel_rfl) (val_of (AV.int .i64) e77 (by kernel_rfl)) ?_
         refine WL.a (some 1) (.int .i64 t60) h_75 ?_
         refine WL.n ?_
         refine Go.weaken (l' := [(0, strA t0), (1, .int .i64 t60), (4, newP h), (7, t7_19), (8, newP h_32)]) (Fr.c (Fr.c (Fr.c (Fr.c (Fr.c Fr.n))))) ?_
         exact Go.weaken (Fr.c (Fr.c (Fr.c (Fr.c (Fr.c Fr.n))))) (J62 _ _ z)
        | false =>
         replace z := ifB_f z
         refine W.f ?_
         refine W.skip (by kernel_rfl) ?_
         exact Go.weaken (Fr.c (Fr.c (Fr.c (Fr.c (Fr.c Fr.n))))) (J62 _ _ z)
       cases t43 with
       | true =>
        replace z := ifB_t z
        refine W.t ?_
        refine W.s (fun _ n78 _ _ _ => ?_)
        refine W.r ?_
        refine WL.a (some 44) (strA t0) h_42 ?_
        refine WL.a (some 45) (.int .i64 t33) h_42 ?_
        replace z := oS z; obtain ⟨t46, e79, z⟩ := z
        refine WL.b (some 46) (.int .u8 t46) h_42 (index_str (P := Pg) (h := h_42) (t := 9) (k := .i64) (by kernel_rfl) e79) ?_
        refine WL.n ?_
        refine Go.weaken (l' := [(0, strA t0), (1, .int .i64 t33), (4, newP h), (7, t7_19), (8, newP h_32), (11, .int .i64 0), (46, .int .u8 t46)]) (Fr.c (Fr.c (Fr.c (Fr.c (Fr.c (Fr.c (Fr.c Fr.n))))))) ?_
        refine n78 ?_
        refine W.blockK (by kernel_rfl) (fun K80 n80 s80 o80 q80 p80 => ?_)
        refine W.s (fun _ n81 _ _ _ => ?_)
        refine W.r ?_
        replace z := lS z; obtain ⟨t48, e82, z⟩ := z
        refine WL.val (d := (some 48)) (v := .bool t48) (h' := h_42) (by kernel_rfl) (by kernel_rfl) (val_of AV.bool e82 (by kernel_rfl)) ?_
        refine WL.a (some 47) (.bool t48) h_42 ?_
        refine WL.n ?_
        refine Go.weaken (l' := [(0, strA t0), (1, .int .i64 t33), (4, newP h), (7, t7_19), (8, newP h_32), (11, .int .i64 0), (46, .int .u8 t46), (47, .bool t48)]) (Fr.c (Fr.c (Fr.c (Fr.c (Fr.c (Fr.c (Fr.c (Fr.c Fr.n)))))))) ?_
        refine n81 ?_
        replace z := lS z; obtain ⟨k83, e83, z⟩ := z
        have J83 : ∀ (t11_84 : Int) (h_85 : AHeap), k83 t11_84 h_85 = some (rR, hR) → Go w0 m0 (Func.ntmps Try.f67) (K80 .normal) [(0, strA t0), (1, .int .i64 t33), (4, newP h), (7, t7_19), (8, newP h_32), (11, .int .i64 t11_84)] [] h_85 := by
         intro t11_84 h_85 z
         rw [e83] at z
         refine n80 ?_
         exact Go.weaken (Fr.c (Fr.c (Fr.c (Fr.c (Fr.c (Fr.c Fr.n)))))) (J57 _ _ z)
        cases t48 with
        | true =>
         replace z := ifB_t z
         refine W.t ?_
         refine W.r ?_
         refine WL.a (some 11) (.int .i64 5) h_42 ?_
         refine WL.n ?_
         refine Go.weaken (l' := [(0, strA t0), (1, .int .i64 t33), (4, newP h), (7, t7_19), (8, newP h_32), (11, .int .i64 5)]) (Fr.c (Fr.c (Fr.c (Fr.c (Fr.c (Fr.c Fr.n)))))) ?_
         exact Go.weaken (Fr.c (Fr.c (Fr.c (Fr.c (Fr.c (Fr.c Fr.n)))))) (J83 _ _ z)
        | false =>
         replace z := ifB_f z
         refine W.f ?_
         refine W.s (fun _ n86 _ _ _ => ?_)
         refine W.r ?_
         replace z := lS z; obtain ⟨t50, e87, z⟩ := z
         refine WL.val (d := (some 50)) (v := .bool t50) (h' := h_42) (by kernel_rfl) (by kernel_rfl) (val_of AV.bool e87 (by kernel_rfl)) ?_
         refine WL.a (some 49) (.bool t50) h_42 ?_
         refine WL.n ?_
         refine Go.weaken (l' := [(0, strA t0), (1, .int .i64 t33), (4, newP h), (7, t7_19), (8, newP h_32), (11, .int .i64 0), (46, .int .u8 t46), (49, .bool t50)]) (Fr.c (Fr.c (Fr.c (Fr.c (Fr.c (Fr.c (Fr.c (Fr.c Fr.n)))))))) ?_
         refine n86 ?_
         replace z := lS z; obtain ⟨k88, e88, z⟩ := z
         have J88 : ∀ (t11_89 : Int) (h_90 : AHeap), k88 t11_89 h_90 = some (rR, hR) → Go w0 m0 (Func.ntmps Try.f67) (K80 .normal) [(0, strA t0), (1, .int .i64 t33), (4, newP h), (7, t7_19), (8, newP h_32), (11, .int .i64 t11_89)] [] h_90 := by
          intro t11_89 h_90 z
          rw [e88] at z
          exact Go.weaken (Fr.c (Fr.c (Fr.c (Fr.c (Fr.c (Fr.c Fr.n)))))) (J83 _ _ z)
         cases t50 with
         | true =>
          replace z := ifB_t z
          refine W.t ?_
          refine W.r ?_
          refine WL.a (some 11) (.int .i64 6) h_42 ?_
          refine WL.n ?_
          refine Go.weaken (l' := [(0, strA t0), (1, .int .i64 t33), (4, newP h), (7, t7_19), (8, newP h_32), (11, .int .i64 6)]) (Fr.c (Fr.c (Fr.c (Fr.c (Fr.c (Fr.c Fr.n)))))) ?_
          exact Go.weaken (Fr.c (Fr.c (Fr.c (Fr.c (Fr.c (Fr.c Fr.n)))))) (J88 _ _ z)
         | false =>
          replace z := ifB_f z
          refine W.f ?_
          refine W.s (fun _ n91 _ _ _ => ?_)
          refine W.r ?_
          replace z := lS z; obtain ⟨t52, e92, z⟩ := z
          refine WL.val (d := (some 52)) (v := .bool t52) (h' := h_42) (by kernel_rfl) (by kernel_rfl) (val_of AV.bool e92 (by kernel_rfl)) ?_
          refine WL.a (some 51) (.bool t52) h_42 ?_
          refine WL.n ?_
          refine Go.weaken (l' := [(0, strA t0), (1, .int .i64 t33), (4, newP h), (7, t7_19), (8, newP h_32), (11, .int .i64 0), (51, .bool t52)]) (Fr.c (Fr.c (Fr.c (Fr.c (Fr.c (Fr.c (Fr.c Fr.n))))))) ?_
          refine n91 ?_
          replace z := lS z; obtain ⟨k93, e93, z⟩ := z
          have J93 : ∀ (t11_94 : Int) (h_95 : AHeap), k93 t11_94 h_95 = some (rR, hR) → Go w0 m0 (Func.ntmps Try.f67) (K80 .normal) [(0, strA t0), (1, .int .i64 t33), (4, newP h), (7, t7_19), (8, newP h_32), (11, .int .i64 t11_94)] [] h_95 := by
           intro t11_94 h_95 z
           rw [e93] at z
           exact Go.weaken (Fr.c (Fr.c (Fr.c (Fr.c (Fr.c (Fr.c Fr.n)))))) (J88 _ _ z)
          cases t52 with
          | true =>
           replace z := ifB_t z
           refine W.t ?_
           refine W.r ?_
           refine WL.a (some 11) (.int .i64 7) h_42 ?_
           refine WL.n ?_
           refine Go.weaken (l' := [(0, strA t0), (1, .int .i64 t33), (4, newP h), (7, t7_19), (8, newP h_32), (11, .int .i64 7)]) (Fr.c (Fr.c (Fr.c (Fr.c (Fr.c (Fr.c Fr.n)))))) ?_
           exact Go.weaken (Fr.c (Fr.c (Fr.c (Fr.c (Fr.c (Fr.c Fr.n)))))) (J93 _ _ z)
          | false =>
           replace z := ifB_f z
           refine W.f ?_
           refine W.skip (by kernel_rfl) ?_
           exact Go.weaken (Fr.c (Fr.c (Fr.c (Fr.c (Fr.c (Fr.c Fr.n)))))) (J93 _ _ z)
       | false =>
        replace z := ifB_f z
        refine W.f ?_
        refine W.skip (by kernel_rfl) ?_
        exact Go.weaken (Fr.c (Fr.c (Fr.c (Fr.c (Fr.c (Fr.c Fr.n)))))) (J57 _ _ z)
     | false =>
      replace z := ifB_f z
      refine W.f ?_
      refine W.exit (by kernel_rfl) ?_
      refine e21 ?_
      refine e17 ?_
      refine s6 (by kernel_rfl) ?_
      exact Go.weaken (Fr.c (Fr.c (Fr.c Fr.n))) (J7 _ _ _ z)
    cases t21 with
    | true =>
     replace z := ifB_t z
     refine WL.a (some 23) (strA t0) h_24 ?_
     refine WL.a (some 24) (.int .i64 t1_18) h_24 ?_
     replace z := oS z; obtain ⟨t25, e96, z⟩ := z
     refine WL.b (some 25) (.int .u8 t25) h_24 (index_str (P := Pg) (h := h_24) (t := 9) (k := .i64) (by kernel_rfl) e96) ?_
     replace z := lS z; obtain ⟨t26, e97, z⟩ := z
     refine WL.val (d := (some 26)) (v := .bool t26) (h' := h_24) (by kernel_rfl) (by kernel_rfl) (val_of AV.bool e97 (by kernel_rfl)) ?_
     refine WL.a (some 27) (.bool t26) h_24 ?_
     exact WL.weaken (Fr.c (Fr.c (Fr.c (Fr.c (Fr.c Fr.n))))) (J29 _ _ z)
    | false =>
     replace z := ifB_f z
     refine WL.o (some 23) ?_
     refine WL.o (some 24) ?_
     refine WL.o (some 25) ?_
     refine WL.o (some 26) ?_
     refine WL.a (some 27) (.bool false) h_24 ?_
     exact WL.weaken (Fr.c (Fr.c (Fr.c (Fr.c (Fr.c Fr.n))))) (J29 _ _ z)
   cases t15 with
   | true =>
    replace z := ifB_t z
    refine WL.a (some 17) (strA t0) h_20 ?_
    refine WL.a (some 18) (.int .i64 t1_18) h_20 ?_
    replace z := oS z; obtain ⟨t19, e98, z⟩ := z
    refine WL.b (some 19) (.int .u8 t19) h_20 (index_str (P := Pg) (h := h_20) (t := 9) (k := .i64) (by kernel_rfl) e98) ?_
    replace z := lS z; obtain ⟨t20, e99, z⟩ := z
    refine WL.val (d := (some 20)) (v := .bool t20) (h' := h_20) (by kernel_rfl) (by kernel_rfl) (val_of AV.bool e99 (by kernel_rfl)) ?_
    refine WL.a (some 21) (.bool t20) h_20 ?_
    exact WL.weaken (Fr.c (Fr.c (Fr.c (Fr.c (Fr.c Fr.n))))) (J26 _ _ z)
   | false =>
    replace z := ifB_f z
    refine WL.o (some 17) ?_
    refine WL.o (some 18) ?_
    refine WL.o (some 19) ?_
    refine WL.o (some 20) ?_
    refine WL.a (some 21) (.bool false) h_20 ?_
    exact WL.weaken (Fr.c (Fr.c (Fr.c (Fr.c (Fr.c Fr.n))))) (J26 _ _ z)
 exact Go.weaken (Fr.c (Fr.c (Fr.c (Fr.c Fr.n)))) (L17 _ _ _ _ z)
noncomputable def ref09_row_fn (call : CallF) (n : Nat) : FnT := fun args h => match args with
 | [x0, x1] => obind (avStr x0) fun t0 => obind (avInt .i64 x1) fun t1 => ref09_row call n t0 t1 h
 | _ => none
set_option maxRecDepth 100000 in
theorem ref09_row_fn_eq (call : CallF) (n : Nat) (t0 : Bytes) (t1 : Int) (h : AHeap) : ref09_row_fn call n [strA t0, .int .i64 t1] h = ref09_row call n t0 t1 h :=
 (Eq.trans (obind_eq (fun t0 => obind (avInt .i64 (.int .i64 t1)) fun t1 => ref09_row call n t0 t1 h) (avStr_str t0)) (Eq.trans (obind_eq (fun t1 => ref09_row call n t0 t1 h) (avInt_int .i64 t1)) rfl))
theorem ref09_row_holds {call : CallF} (hc : SaysAll Pg call) (n : Nat) : Holds Pg 67 (ref09_row_fn call n) := by
 intro args h r h2 e
 unfold ref09_row_fn at e
 split at e
 ·replace e := oS e; obtain ⟨t0, c0, e⟩ := e; have c0 := avStr_some c0; subst c0
  replace e := oS e; obtain ⟨t1, c1, e⟩ := e; have c1 := avInt_some c1; subst c1
  exact ref09_row_ok hc e
 ·cases e
noncomputable def ref09_atom (call : CallF) (_ : Nat) (t0 : Bytes) (t1 : Int) (h : AHeap) : R :=
 lett (newH h 41 [.int .i64 0, .int .u64 0, .int .u64 0, .int .u64 0, .int .u64 0, .nsl]) fun h_2 =>
 obind (idxS t0 t1) fun t12 =>
 lett ((t12 : Int) == 40) fun (t14 : Bool) =>
 ifB t14
 (
  lett (IntKind.i64.wrap (t1 + 1)) fun (t18 : Int) =>
  callN (call 43 [strA t0, .int .i64 t18] h_2) fun r19 h_12 =>
  obind (extT 0 r19) fun v20 =>
  obind (avAgg v20) fun t20 =>
  obind (extT 1 r19) fun v21 =>
  obind (avInt .i64 v21) fun t21 =>
  obind (extT 2 r19) fun v22 =>
  obind (avBool v22) fun t22 =>
  lett (newH h_12 41 [.int .i64 0, .int .u64 0, .int .u64 0, .int .u64 0, .int .u64 0, .nsl]) fun h_20 =>
  obind (stRow h_20 6 t20 (newP h_12)) fun h_22 =>
  lett (!t22) fun (t24 : Bool) =>
  ifB t24
  (
   obind (ldRow h_22 6 (newP h_12)) fun t25 =>
   obind (stRow h_22 6 t25 (newP h)) fun h_29 =>
   obind (ldRow h_29 6 (newP h)) fun w4 =>
   some (.ret (.tup [.agg w4, .int .i64 t21, .bool false]), h_29))
  (
   lett ((t21 : Int) == (lenS t0)) fun (t30 : Bool) =>
   ifB t30
   (
    obind (stRow h_22 6 ([.int .i64 0, .int .u64 0, .int .u64 0, .int .u64 0, .int .u64 0, .nsl] : List AV) (newP h)) fun h_36 =>
    obind (ldRow h_36 6 (newP h)) fun w4_39 =>
    some (.ret (.tup [.agg w4_39, .int .i64 t21, .bool false]), h_36))
   (
    obind (ldRow h_22 6 (newP h_12)) fun t33 =>
    lett (IntKind.i64.wrap (t21 + 1)) fun (t35 : Int) =>
    obind (stRow h_22 6 t33 (newP h)) fun h_43 =>
    obind (ldRow h_43 6 (newP h)) fun w4_46 =>
    some (.ret (.tup [.agg w4_46, .int .i64 t35, .bool true]), h_43))))
 (
  lett ((t12 : Int) == 91) fun (t37 : Bool) =>
  ifB t37
  (
   lett (IntKind.i64.wrap (t1 + 1)) fun (t40 : Int) =>
   callN (call 86 [strA t0, .int .i64 t40] h_2) fun r41 h_51 =>
   obind (extT 0 r41) fun v42 =>
   obind (avAgg v42) fun t42 =>
   obind (extT 1 r41) fun v43 =>
   obind (avInt .i64 v43) fun t43 =>
   obind (extT 2 r41) fun v44 =>
   obind (avBool v44) fun t44 =>
   obind (stRow h_51 6 t42 (newP h)) fun h_59 =>
   obind (ldRow h_59 6 (newP h)) fun w4_62 =>
   some (.ret (.tup [.agg w4_62, .int .i64 t43, .bool t44]), h_59))
  (
   lett ((t12 : Int) == 46) fun (t46 : Bool) =>
   ifB t46
   (
    callN (call 66 [] h_2) fun r47 h_66 =>
    obind (avAgg r47) fun t47 =>
    lett (IntKind.i64.wrap (t1 + 1)) fun (t49 : Int) =>
    obind (stRow h_66 6 t47 (newP h)) fun h_70 =>
    obind (ldRow h_70 6 (newP h)) fun w4_73 =>
    some (.ret (.tup [.agg w4_73, .int .i64 t49, .bool true]), h_70))
   (
    lett ((t12 : Int) == 42) fun (t51 : Bool) =>
    lett (fun (t50 : Bool) (h_78 : AHeap) =>
     ifB t50
     (
      obind (stRow h_78 6 ([.int .i64 0, .int .u64 0, .int .u64 0, .int .u64 0, .int .u64 0, .nsl] : List AV) (newP h)) fun h_80 =>
      obind (ldRow h_80 6 (newP h)) fun w4_83 =>
      some (.ret (.tup [.agg w4_83, .int .i64 t1, .bool false]), h_80))
     (
      lett ((t12 : Int) == 92) fun (t58 : Bool) =>
      ifB t58
      (
       lett (IntKind.i64.wrap (t1 + 1)) fun (t60 : Int) =>
       lett ((t60 : Int) == (lenS t0)) fun (t63 : Bool) =>
       ifB t63
       (
        lett (IntKind.i64.wrap (t1 + 1)) fun (t66 : Int) =>
        obind (stRow h_78 6 ([.int .i64 0, .int .u64 0, .int .u64 0, .int .u64 0, .int .u64 0, .nsl] : List AV) (newP h)) fun h_92 =>
        obind (ldRow h_92 6 (newP h)) fun w4_95 =>
        some (.ret (.tup [.agg w4_95, .int .i64 t66, .bool false]), h_92))
       (
        lett (IntKind.i64.wrap (t1 + 1)) fun (t69 : Int) =>
        obind (idxS t0 t69) fun t70 =>
        callN (call 64 [.int .u8 t70] h_78) fun r71 h_99 =>
        obind (avAgg r71) fun t71 =>
        lett (IntKind.i64.wrap (t1 + 2)) fun (t73 : Int) =>
        obind (stRow h_99 6 t71 (newP h)) fun h_103 =>
        obind (ldRow h_103 6 (newP h)) fun w4_106 =>
        some (.ret (.tup [.agg w4_106, .int .i64 t73, .bool true]), h_103)))
      (
       obind (idxS t0 t1) fun t76 =>
       callN (call 64 [.int .u8 t76] h_78) fun r77 h_109 =>
       obind (avAgg r77) fun t77 =>
       lett (IntKind.i64.wrap (t1 + 1)) fun (t79 : Int) =>
       obind (stRow h_109 6 t77 (newP h)) fun h_113 =>
       obind (ldRow h_113 6 (newP h)) fun w4_116 =>
       some (.ret (.tup [.agg w4_116, .int .i64 t79, .bool true]), h_113)))) fun k77 =>
    ifB t51
    (
     k77 true h_2)
    (
     lett ((t12 : Int) == 43) fun (t52 : Bool) =>
     lett (fun (t50_120 : Bool) (h_121 : AHeap) =>
      k77 t50_120 h_121) fun k119 =>
     ifB t52
     (
      k119 true h_2)
     (
      lett ((t12 : Int) == 63) fun (t53 : Bool) =>
      lett (fun (t50_125 : Bool) (h_126 : AHeap) =>
       k119 t50_125 h_126) fun k124 =>
      ifB t53
      (
       k124 true h_2)
      (
       lett ((t12 : Int) == 93) fun (t54 : Bool) =>
       k124 t54 h_2))))))
theorem ref09_atom_ok {call : CallF} (hc : SaysAll Pg call) {n : Nat} {t0 : Bytes} {t1 : Int} {h : AHeap} {rR : ARes} {hR : AHeap} (z : ref09_atom call n t0 t1 h = some (rR, hR)) : Says Pg 80 [strA t0, .int .i64 t1] h rR hR := by
 unfold ref09_atom at z
 refine says_of (fn := Try.f80) Try.func80 (c := codeOf Try.f80) (by kernel_rfl) (by kernel_rfl) (fun w0 m0 => ?_)
 refine W.weaken (l' := [(0, strA t0), (1, .int .i64 t1)]) (Fr.c (Fr.c Fr.n)) ?_
 refine W.s (fun _ n1 _ _ _ => ?_)
 refine W.r ?_
 replace z := lS z; obtain ⟨h_2, e3, z⟩ := z
 refine WL.val (d := (some 4)) (v := (newP h)) (h' := h_2) (by kernel_rfl) (by kernel_rfl) (val_ofH e3 (by kernel_rfl)) ?_
 refine WL.a (some 5) (.int .i64 0) h_2 ?_
 refine WL.a (some 6) (.bool false) h_2 ?_
 refine WL.n ?_
 refine Go.weaken (l' := [(0, strA t0), (1, .int .i64 t1), (4, newP h)]) (Fr.c (Fr.c (Fr.c Fr.n))) ?_
 refine n1 ?_
 refine W.s (fun _ n4 _ q4 _ => ?_)
 refine W.s (fun _ n5 _ _ _ => ?_)
 refine W.r ?_
 refine WL.a (some 10) (strA t0) h_2 ?_
 refine WL.a (some 11) (.int .i64 t1) h_2 ?_
 replace z := oS z; obtain ⟨t12, e6, z⟩ := z
 refine WL.b (some 12) (.int .u8 t12) h_2 (index_str (P := Pg) (h := h_2) (t := 9) (k := .i64) (by kernel_rfl) e6) ?_
 refine WL.n ?_
 refine Go.weaken (l' := [(0, strA t0), (1, .int .i64 t1), (4, newP h), (12, .int .u8 t12)]) (Fr.c (Fr.c (Fr.c (Fr.c Fr.n)))) ?_
 refine n5 ?_
 refine W.blockK (by kernel_rfl) (fun K7 n7 s7 o7 q7 p7 => ?_)
 refine W.s (fun _ n8 _ _ _ => ?_)
 refine W.r ?_
 replace z := lS z; obtain ⟨t14, e9, z⟩ := z
 refine WL.val (d := (some 14)) (v := .bool t14) (h' := h_2) (by kernel_rfl) (by kernel_rfl) (val_of AV.bool e9 (by kernel_rfl)) ?_
 refine WL.a (some 13) (.bool t14) h_2 ?_
 refine WL.n ?_
 refine Go.weaken (l' := [(0, strA t0), (1, .int .i64 t1), (4, newP h), (12, .int .u8 t12), (13, .bool t14)]) (Fr.c (Fr.c (Fr.c (Fr.c (Fr.c Fr.n))))) ?_
 refine n8 ?_
 cases t14 with
 | true =>
  replace z := ifB_t z
  refine W.t ?_
  refine W.s (fun _ n10 _ _ _ => ?_)
  refine W.r ?_
  refine WL.a (some 16) (strA t0) h_2 ?_
  refine WL.a (some 17) (.int .i64 t1) h_2 ?_
  replace z := lS z; obtain ⟨t18, e11, z⟩ := z
  refine WL.val (d := (some 18)) (v := .int .i64 t18) (h' := h_2) (by kernel_rfl) (by kernel_rfl) (val_of (AV.int .i64) e11 (by kernel_rfl)) ?_
  replace z := callN_some z; obtain ⟨r19, h_12, e13, z⟩ := z
  refine WL.c (hc.ok w0) (some 19) e13 ?_
  refine WL.a (some 15) r19 h_12 ?_
  replace z := oS z; obtain ⟨v20, e14, z⟩ := z
  replace z := oS z; obtain ⟨t20, c15, z⟩ := z
  have c15 := avAgg_some c15
  subst c15
  refine WL.b (some 20) (.agg t20) h_12 (extract_tup (h := h_12) e14) ?_
  replace z := oS z; obtain ⟨v21, e16, z⟩ := z
  replace z := oS z; obtain ⟨t21, c17, z⟩ := z
  have c17 := avInt_some c17
  subst c17
  refine WL.b (some 21) (.int .i64 t21) h_12 (extract_tup (h := h_12) e16) ?_
  replace z := oS z; obtain ⟨v22, e18, z⟩ := z
  replace z := oS z; obtain ⟨t22, c19, z⟩ := z
  have c19 := avBool_some c19
  subst c19
  refine WL.b (some 22) (.bool t22) h_12 (extract_tup (h := h_12) e18) ?_
  replace z := lS z; obtain ⟨h_20, e21, z⟩ := z
  refine WL.val (d := (some 7)) (v := (newP h_12)) (h' := h_20) (by kernel_rfl) (by kernel_rfl) (val_ofH e21 (by kernel_rfl)) ?_
  replace z := oS z; obtain ⟨h_22, e23, z⟩ := z
  refine WL.e h_22 (store_row (P := Pg) (h := h_20) (t := 41) (v := (.agg t20)) (by kernel_rfl) (by kernel_rfl) e23) ?_
  refine WL.a (some 8) (.int .i64 t21) h_22 ?_
  refine WL.a (some 9) (.bool t22) h_22 ?_
  refine WL.n ?_
  refine Go.weaken (l' := [(0, strA t0), (4, newP h), (7, newP h_12), (8, .int .i64 t21), (9, .bool t22)]) (Fr.c (Fr.c (Fr.c (Fr.c (Fr.c Fr.n))))) ?_
  refine n10 ?_
  refine W.s (fun _ n24 _ q24 _ => ?_)
  refine W.s (fun _ n25 _ _ _ => ?_)
  refine W.r ?_
  refine WL.a (some 23) (.bool t22) h_22 ?_
  replace z := lS z; obtain ⟨t24, e26, z⟩ := z
  refine WL.val (d := (some 24)) (v := .bool t24) (h' := h_22) (by kernel_rfl) (by kernel_rfl) (val_of AV.bool e26 (by kernel_rfl)) ?_
  refine WL.n ?_
  refine Go.weaken (l' := [(0, strA t0), (4, newP h), (7, newP h_12), (8, .int .i64 t21), (24, .bool t24)]) (Fr.c (Fr.c (Fr.c (Fr.c (Fr.c Fr.n))))) ?_
  refine n25 ?_
  cases t24 with
  | true =>
   replace z := ifB_t z
   refine W.t ?_
   refine W.s (fun _ n27 _ _ _ => ?_)
   refine W.r ?_
   replace z := oS z; obtain ⟨t25, e28, z⟩ := z
   refine WL.b (some 25) (.agg t25) h_22 (load_row (P := Pg) (h := h_22) (t := 41) (by kernel_rfl) (by kernel_rfl) e28) ?_
   refine WL.a (some 26) (.int .i64 t21) h_22 ?_
   replace z := oS z; obtain ⟨h_29, e30, z⟩ := z
   refine WL.e h_29 (store_row (P := Pg) (h := h_22) (t := 41) (v := (.agg t25)) (by kernel_rfl) (by kernel_rfl) e30) ?_
   refine WL.a (some 5) (.int .i64 t21) h_29 ?_
   refine WL.a (some 6) (.bool false) h_29 ?_
   refine WL.n ?_
   refine Go.weaken (l' := [(4, newP h), (5, .int .i64 t21), (6, .bool false)]) (Fr.c (Fr.c (Fr.c Fr.n))) ?_
   refine n27 ?_
   refine W.ret (by kernel_rfl) ?_
   refine q24 ?_
   refine q7 ?_
   refine q4 ?_
   replace z := oS z; obtain ⟨w4, e31, z⟩ := z
   obtain ⟨z, hF2⟩ := ret_inj z; subst z; subst hF2
   exact leave_of (rs := [.cell 4 41, .tmp 5, .tmp 6]) (vs := [.agg w4, .int .i64 t21, .bool false]) (by kernel_rfl) (res_cell (by kernel_rfl) (load_row (P := Pg) (h := h_29) (t := 41) (by kernel_rfl) (by kernel_rfl) e31) (res_tmp (by kernel_rfl) (res_tmp (by kernel_rfl) res_nil))) (by kernel_rfl)
  | false =>
   replace z := ifB_f z
   refine W.f ?_
   refine W.skip (by kernel_rfl) ?_
   refine n24 ?_
   refine W.s (fun _ n32 _ q32 _ => ?_)
   refine W.s (fun _ n33 _ _ _ => ?_)
   refine W.r ?_
   refine WL.a (some 27) (.int .i64 t21) h_22 ?_
   refine WL.a (some 28) (strA t0) h_22 ?_
   refine WL.a (some 29) (.int .i64 (lenS t0)) h_22 ?_
   replace z := lS z; obtain ⟨t30, e34, z⟩ := z
   refine WL.val (d := (some 30)) (v := .bool t30) (h' := h_22) (by kernel_rfl) (by kernel_rfl) (val_of AV.bool e34 (by kernel_rfl)) ?_
   refine WL.n ?_
   refine Go.weaken (l' := [(4, newP h), (7, newP h_12), (8, .int .i64 t21), (30, .bool t30)]) (Fr.c (Fr.c (Fr.c (Fr.c Fr.n)))) ?_
   refine n33 ?_
   cases t30 with
   | true =>
    replace z := ifB_t z
    refine W.t ?_
    refine W.s (fun _ n35 _ _ _ => ?_)
    refine W.r ?_
    refine WL.a (some 31) (.agg ([.int .i64 0, .int .u64 0, .int .u64 0, .int .u64 0, .int .u64 0, .nsl] : List AV)) h_22 ?_
    refine WL.a (some 32) (.int .i64 t21) h_22 ?_
    replace z := oS z; obtain ⟨h_36, e37, z⟩ := z
    refine WL.e h_36 (store_row (P := Pg) (h := h_22) (t := 41) (v := (.agg ([.int .i64 0, .int .u64 0, .int .u64 0, .int .u64 0, .int .u64 0, .nsl] : List AV))) (by kernel_rfl) (by kernel_rfl) e37) ?_
    refine WL.a (some 5) (.int .i64 t21) h_36 ?_
    refine WL.a (some 6) (.bool false) h_36 ?_
    refine WL.n ?_
    refine Go.weaken (l' := [(4, newP h), (5, .int .i64 t21), (6, .bool false)]) (Fr.c (Fr.c (Fr.c Fr.n))) ?_
    refine n35 ?_
    refine W.ret (by kernel_rfl) ?_
    refine q32 ?_
    refine q7 ?_
    refine q4 ?_
    replace z := oS z; obtain ⟨w4_39, e38, z⟩ := z
    obtain ⟨z, hF2⟩ := ret_inj z; subst z; subst hF2
    exact leave_of (rs := [.cell 4 41, .tmp 5, .tmp 6]) (vs := [.agg w4_39, .int .i64 t21, .bool false]) (by kernel_rfl) (res_cell (by kernel_rfl) (load_row (P := Pg) (h := h_36) (t := 41) (by kernel_rfl) (by kernel_rfl) e38) (res_tmp (by kernel_rfl) (res_tmp (by kernel_rfl) res_nil))) (by kernel_rfl)
   | false =>
    replace z := ifB_f z
    refine W.f ?_
    refine W.skip (by kernel_rfl) ?_
    refine n32 ?_
    refine W.s (fun _ n40 _ _ _ => ?_)
    refine W.r ?_
    replace z := oS z; obtain ⟨t33, e41, z⟩ := z
    refine WL.b (some 33) (.agg t33) h_22 (load_row (P := Pg) (h := h_22) (t := 41) (by kernel_rfl) (by kernel_rfl) e41) ?_
    refine WL.a (some 34) (.int .i64 t21) h_22 ?_
    replace z := lS z; obtain ⟨t35, e42, z⟩ := z
    refine WL.val (d := (some 35)) (v := .int .i64 t35) (h' := h_22) (by kernel_rfl) (by kernel_rfl) (val_of (AV.int .i64) e42 (by kernel_rfl)) ?_
    replace z := oS z; obtain ⟨h_43, e44, z⟩ := z
    refine WL.e h_43 (store_row (P := Pg) (h := h_22) (t := 41) (v := (.agg t33)) (by kernel_rfl) (by kernel_rfl) e44) ?_
    refine WL.a (some 5) (.int .i64 t35) h_43 ?_
    refine WL.a (some 6) (.bool true) h_43 ?_
    refine WL.n ?_
    refine Go.weaken (l' := [(4, newP h), (5, .int .i64 t35), (6, .bool true)]) (Fr.c (Fr.c (Fr.c Fr.n))) ?_
    refine n40 ?_
    refine W.ret (by kernel_rfl) ?_
    refine q7 ?_
    refine q4 ?_
    replace z := oS z; obtain ⟨w4_46, e45, z⟩ := z
    obtain ⟨z, hF2⟩ := ret_inj z; subst z; subst hF2
    exact leave_of (rs := [.cell 4 41, .tmp 5, .tmp 6]) (vs := [.agg w4_46, .int .i64 t35, .bool true]) (by kernel_rfl) (res_cell (by kernel_rfl) (load_row (P := Pg) (h := h_43) (t := 41) (by kernel_rfl) (by kernel_rfl) e45) (res_tmp (by kernel_rfl) (res_tmp (by kernel_rfl) res_nil))) (by kernel_rfl)
 | false =>
  replace z := ifB_f z
  refine W.f ?_
  refine W.s (fun _ n47 _ _ _ => ?_)
  refine W.r ?_
  replace z := lS z; obtain ⟨t37, e48, z⟩ := z
  refine WL.val (d := (some 37)) (v := .bool t37) (h' := h_2) (by kernel_rfl) (by kernel_rfl) (val_of AV.bool e48 (by kernel_rfl)) ?_
  refine WL.a (some 36) (.bool t37) h_2 ?_
  refine WL.n ?_
  refine Go.weaken (l' := [(0, strA t0), (1, .int .i64 t1), (4, newP h), (12, .int .u8 t12), (36, .bool t37)]) (Fr.c (Fr.c (Fr.c (Fr.c (Fr.c Fr.n))))) ?_
  refine n47 ?_
  cases t37 with
  | true =>
   replace z := ifB_t z
   refine W.t ?_
   refine W.s (fun _ n49 _ _ _ => ?_)
   refine W.r ?_
   refine WL.a (some 38) (strA t0) h_2 ?_
   refine WL.a (some 39) (.int .i64 t1) h_2 ?_
   replace z := lS z; obtain ⟨t40, e50, z⟩ := z
   refine WL.val (d := (some 40)) (v := .int .i64 t40) (h' := h_2) (by kernel_rfl) (by kernel_rfl) (val_of (AV.int .i64) e50 (by kernel_rfl)) ?_
   replace z := callN_some z; obtain ⟨r41, h_51, e52, z⟩ := z
   refine WL.c (hc.ok w0) (some 41) e52 ?_
   replace z := oS z; obtain ⟨v42, e53, z⟩ := z
   replace z := oS z; obtain ⟨t42, c54, z⟩ := z
   have c54 := avAgg_some c54
   subst c54
   refine WL.b (some 42) (.agg t42) h_51 (extract_tup (h := h_51) e53) ?_
   replace z := oS z; obtain ⟨v43, e55, z⟩ := z
   replace z := oS z; obtain ⟨t43, c56, z⟩ := z
   have c56 := avInt_some c56
   subst c56
   refine WL.b (some 43) (.int .i64 t43) h_51 (extract_tup (h := h_51) e55) ?_
   replace z := oS z; obtain ⟨v44, e57, z⟩ := z
   replace z := oS z; obtain ⟨t44, c58, z⟩ := z
   have c58 := avBool_some c58
   subst c58
   refine WL.b (some 44) (.bool t44) h_51 (extract_tup (h := h_51) e57) ?_
   replace z := oS z; obtain ⟨h_59, e60, z⟩ := z
   refine WL.e h_59 (store_row (P := Pg) (h := h_51) (t := 41) (v := (.agg t42)) (by kernel_rfl) (by kernel_rfl) e60) ?_
   refine WL.a (some 5) (.int .i64 t43) h_59 ?_
   refine WL.a (some 6) (.bool t44) h_59 ?_
   refine WL.n ?_
   refine Go.weaken (l' := [(4, newP h), (5, .int .i64 t43), (6, .bool t44)]) (Fr.c (Fr.c (Fr.c Fr.n))) ?_
   refine n49 ?_
   refine W.ret (by kernel_rfl) ?_
   refine q7 ?_
   refine q4 ?_
   replace z := oS z; obtain ⟨w4_62, e61, z⟩ := z
   obtain ⟨z, hF2⟩ := ret_inj z; subst z; subst hF2
   exact leave_of (rs := [.cell 4 41, .tmp 5, .tmp 6]) (vs := [.agg w4_62, .int .i64 t43, .bool t44]) (by kernel_rfl) (res_cell (by kernel_rfl) (load_row (P := Pg) (h := h_59) (t := 41) (by kernel_rfl) (by kernel_rfl) e61) (res_tmp (by kernel_rfl) (res_tmp (by kernel_rfl) res_nil))) (by kernel_rfl)
  | false =>
   replace z := ifB_f z
   refine W.f ?_
   refine W.s (fun _ n63 _ _ _ => ?_)
   refine W.r ?_
   replace z := lS z; obtain ⟨t46, e64, z⟩ := z
   refine WL.val (d := (some 46)) (v := .bool t46) (h' := h_2) (by kernel_rfl) (by kernel_rfl) (val_of AV.bool e64 (by kernel_rfl)) ?_
   refine WL.a (some 45) (.bool t46) h_2 ?_
   refine WL.n ?_
   refine Go.weaken (l' := [(0, strA t0), (1, .int .i64 t1), (4, newP h), (12, .int .u8 t12), (45, .bool t46)]) (Fr.c (Fr.c (Fr.c (Fr.c (Fr.c Fr.n))))) ?_
   refine n63 ?_
   cases t46 with
   | true =>
    replace z := ifB_t z
    refine W.t ?_
    refine W.s (fun _ n65 _ _ _ => ?_)
    refine W.r ?_
    replace z := callN_some z; obtain ⟨r47, h_66, e67, z⟩ := z
    replace z := oS z; obtain ⟨t47, c68, z⟩ := z
    have c68 := avAgg_some c68
    subst c68
    refine WL.c (hc.ok w0) (some 47) e67 ?_
    refine WL.a (some 48) (.int .i64 t1) h_66 ?_
    replace z := lS z; obtain ⟨t49, e69, z⟩ := z
    refine WL.val (d := (some 49)) (v := .int .i64 t49) (h' := h_66) (by kernel_rfl) (by kernel_rfl) (val_of (AV.int .i64) e69 (by kernel_rfl)) ?_
    replace z := oS z; obtain ⟨h_70, e71, z⟩ := z
    refine WL.e h_70 (store_row (P := Pg) (h := h_66) (t := 41) (v := (.agg t47)) (by kernel_rfl) (by kernel_rfl) e71) ?_
    refine WL.a (some 5) (.int .i64 t49) h_70 ?_
    refine WL.a (some 6) (.bool true) h_70 ?_
    refine WL.n ?_
    refine Go.weaken (l' := [(4, newP h), (5, .int .i64 t49), (6, .bool true)]) (Fr.c (Fr.c (Fr.c Fr.n))) ?_
    refine n65 ?_
    refine W.ret (by kernel_rfl) ?_
    refine q7 ?_
    refine q4 ?_
    replace z := oS z; obtain ⟨w4_73, e72, z⟩ := z
    obtain ⟨z, hF2⟩ := ret_inj z; subst z; subst hF2
    exact leave_of (rs := [.cell 4 41, .tmp 5, .tmp 6]) (vs := [.agg w4_73, .int .i64 t49, .bool true]) (by kernel_rfl) (res_cell (by kernel_rfl) (load_row (P := Pg) (h := h_70) (t := 41) (by kernel_rfl) (by kernel_rfl) e72) (res_tmp (by kernel_rfl) (res_tmp (by kernel_rfl) res_nil))) (by kernel_rfl)
   | false =>
    replace z := ifB_f z
    refine W.f ?_
    refine W.s (fun K74 n74 _ _ _ => ?_)
    refine W.s (fun _ n75 _ _ _ => ?_)
    refine W.r ?_
    replace z := lS z; obtain ⟨t51, e76, z⟩ := z
    refine WL.val (d := (some 51)) (v := .bool t51) (h' := h_2) (by kernel_rfl) (by kernel_rfl) (val_of AV.bool e76 (by kernel_rfl)) ?_
    refine WL.a (some 50) (.bool t51) h_2 ?_
    refine WL.n ?_
    refine Go.weaken (l' := [(0, strA t0), (1, .int .i64 t1), (4, newP h), (12, .int .u8 t12), (50, .bool t51)]) (Fr.c (Fr.c (Fr.c (Fr.c (Fr.c Fr.n))))) ?_
    refine n75 ?_
    replace z := lS z; obtain ⟨k77, e77, z⟩ := z
    have J77 : ∀ (t50 : Bool) (h_78 : AHeap), k77 t50 h_78 = some (rR, hR) → Go w0 m0 (Func.ntmps Try.f80) (K74 .normal) [(0, strA t0), (1, .int .i64 t1), (4, newP h), (12, .int .u8 t12), (50, .bool t50)] [] h_78 := by
     intro t50 h_78 z
     rw [e77] at z
     refine n74 ?_
     cases t50 with
     | true =>
      replace z := ifB_t z
      refine W.t ?_
      refine W.s (fun _ n79 _ _ _ => ?_)
      refine W.r ?_
      refine WL.a (some 55) (.agg ([.int .i64 0, .int .u64 0, .int .u64 0, .int .u64 0, .int .u64 0, .nsl] : List AV)) h_78 ?_
      refine WL.a (some 56) (.int .i64 t1) h_78 ?_
      replace z := oS z; obtain ⟨h_80, e81, z⟩ := z
      refine WL.e h_80 (store_row (P := Pg) (h := h_78) (t := 41) (v := (.agg ([.int .i64 0, .int .u64 0, .int .u64 0, .int .u64 0, .int .u64 0, .nsl] : List AV))) (by kernel_rfl) (by kernel_rfl) e81) ?_
      refine WL.a (some 5) (.int .i64 t1) h_80 ?_
      refine WL.a (some 6) (.bool false) h_80 ?_
      refine WL.n ?_
      refine Go.weaken (l' := [(4, newP h), (5, .int .i64 t1), (6, .bool false)]) (Fr.c (Fr.c (Fr.c Fr.n))) ?_
      refine n79 ?_
      refine W.ret (by kernel_rfl) ?_
      refine q7 ?_
      refine q4 ?_
      replace z := oS z; obtain ⟨w4_83, e82, z⟩ := z
      obtain ⟨z, hF2⟩ := ret_inj z; subst z; subst hF2
      exact leave_of (rs := [.cell 4 41, .tmp 5, .tmp 6]) (vs := [.agg w4_83, .int .i64 t1, .bool false]) (by kernel_rfl) (res_cell (by kernel_rfl) (load_row (P := Pg) (h := h_80) (t := 41) (by kernel_rfl) (by kernel_rfl) e82) (res_tmp (by kernel_rfl) (res_tmp (by kernel_rfl) res_nil))) (by kernel_rfl)
     | false =>
      replace z := ifB_f z
      refine W.f ?_
      refine W.s (fun _ n84 _ _ _ => ?_)
      refine W.r ?_
      replace z := lS z; obtain ⟨t58, e85, z⟩ := z
      refine WL.val (d := (some 58)) (v := .bool t58) (h' := h_78) (by kernel_rfl) (by kernel_rfl) (val_of AV.bool e85 (by kernel_rfl)) ?_
      refine WL.a (some 57) (.bool t58) h_78 ?_
      refine WL.n ?_
      refine Go.weaken (l' := [(0, strA t0), (1, .int .i64 t1), (4, newP h), (57, .bool t58)]) (Fr.c (Fr.c (Fr.c (Fr.c Fr.n)))) ?_
      refine n84 ?_
      cases t58 with
      | true =>
       replace z := ifB_t z
       refine W.t ?_
       refine W.s (fun _ n86 _ q86 _ => ?_)
       refine W.s (fun _ n87 _ _ _ => ?_)
       refine W.r ?_
       refine WL.a (some 59) (.int .i64 t1) h_78 ?_
       replace z := lS z; obtain ⟨t60, e88, z⟩ := z
       refine WL.val (d := (some 60)) (v := .int .i64 t60) (h' := h_78) (by kernel_rfl) (by kernel_rfl) (val_of (AV.int .i64) e88 (by kernel_rfl)) ?_
       refine WL.a (some 61) (strA t0) h_78 ?_
       refine WL.a (some 62) (.int .i64 (lenS t0)) h_78 ?_
       replace z := lS z; obtain ⟨t63, e89, z⟩ := z
       refine WL.val (d := (some 63)) (v := .bool t63) (h' := h_78) (by kernel_rfl) (by kernel_rfl) (val_of AV.bool e89 (by kernel_rfl)) ?_
       refine WL.n ?_
       refine Go.weaken (l' := [(0, strA t0), (1, .int .i64 t1), (4, newP h), (63, .bool t63)]) (Fr.c (Fr.c (Fr.c (Fr.c Fr.n)))) ?_
       refine n87 ?_
       cases t63 with
       | true =>
        replace z := ifB_t z
        refine W.t ?_
        refine W.s (fun _ n90 _ _ _ => ?_)
        refine W.r ?_
        refine WL.a (some 64) (.agg ([.int .i64 0, .int .u64 0, .int .u64 0, .int .u64 0, .int .u64 0, .nsl] : List AV)) h_78 ?_
        refine WL.a (some 65) (.int .i64 t1) h_78 ?_
        replace z := lS z; obtain ⟨t66, e91, z⟩ := z
        refine WL.val (d := (some 66)) (v := .int .i64 t66) (h' := h_78) (by kernel_rfl) (by kernel_rfl) (val_of (AV.int .i64) e91 (by kernel_rfl)) ?_
        replace z := oS z; obtain ⟨h_92, e93, z⟩ := z
        refine WL.e h_92 (store_row (P := Pg) (h := h_78) (t := 41) (v := (.agg ([.int .i64 0, .int .u64 0, .int .u64 0, .int .u64 0, .int .u64 0, .nsl] : List AV))) (by kernel_rfl) (by kernel_rfl) e93) ?_
        refine WL.a (some 5) (.int .i64 t66) h_92 ?_
        refine WL.a (some 6) (.bool false) h_92 ?_
        refine WL.n ?_
        refine Go.weaken (l' := [(4, newP h), (5, .int .i64 t66), (6, .bool false)]) (Fr.c (Fr.c (Fr.c Fr.n))) ?_
        refine n90 ?_
        refine W.ret (by kernel_rfl) ?_
        refine q86 ?_
        refine q7 ?_
        refine q4 ?_
        replace z := oS z; obtain ⟨w4_95, e94, z⟩ := z
        obtain ⟨z, hF2⟩ := ret_inj z; subst z; subst hF2
        exact leave_of (rs := [.cell 4 41, .tmp 5, .tmp 6]) (vs := [.agg w4_95, .int .i64 t66, .bool false]) (by kernel_rfl) (res_cell (by kernel_rfl) (load_row (P := Pg) (h := h_92) (t := 41) (by kernel_rfl) (by kernel_rfl) e94) (res_tmp (by kernel_rfl) (res_tmp (by kernel_rfl) res_nil))) (by kernel_rfl)
       | false =>
        replace z := ifB_f z
        refine W.f ?_
        refine W.skip (by kernel_rfl) ?_
        refine n86 ?_
        refine W.s (fun _ n96 _ _ _ => ?_)
        refine W.r ?_
        refine WL.a (some 67) (strA t0) h_78 ?_
        refine WL.a (some 68) (.int .i64 t1) h_78 ?_
        replace z := lS z; obtain ⟨t69, e97, z⟩ := z
        refine WL.val (d := (some 69)) (v := .int .i64 t69) (h' := h_78) (by kernel_rfl) (by kernel_rfl) (val_of (AV.int .i64) e97 (by kernel_rfl)) ?_
        replace z := oS z; obtain ⟨t70, e98, z⟩ := z
        refine WL.b (some 70) (.int .u8 t70) h_78 (index_str (P := Pg) (h := h_78) (t := 9) (k := .i64) (by kernel_rfl) e98) ?_
        replace z := callN_some z; obtain ⟨r71, h_99, e100, z⟩ := z
        replace z := oS z; obtain ⟨t71, c101, z⟩ := z
        have c101 := avAgg_some c101
        subst c101
        refine WL.c (hc.ok w0) (some 71) e100 ?_
        refine WL.a (some 72) (.int .i64 t1) h_99 ?_
        replace z := lS z; obtain ⟨t73, e102, z⟩ := z
        refine WL.val (d := (some 73)) (v := .int .i64 t73) (h' := h_99) (by kernel_rfl) (by kernel_rfl) (val_of (AV.int .i64) e102 (by kernel_rfl)) ?_
        replace z := oS z; obtain ⟨h_103, e104, z⟩ := z
        refine WL.e h_103 (store_row (P := Pg) (h := h_99) (t := 41) (v := (.agg t71)) (by kernel_rfl) (by kernel_rfl) e104) ?_
        refine WL.a (some 5) (.int .i64 t73) h_103 ?_
        refine WL.a (some 6) (.bool true) h_103 ?_
        refine WL.n ?_
        refine Go.weaken (l' := [(4, newP h), (5, .int .i64 t73), (6, .bool true)]) (Fr.c (Fr.c (Fr.c Fr.n))) ?_
        refine n96 ?_
        refine W.ret (by kernel_rfl) ?_
        refine q7 ?_
        refine q4 ?_
        replace z := oS z; obtain ⟨w4_106, e105, z⟩ := z
        obtain ⟨z, hF2⟩ := ret_inj z; subst z; subst hF2
        exact leave_of (rs := [.cell 4 41, .tmp 5, .tmp 6]) (vs := [.agg w4_106, .int .i64 t73, .bool true]) (by kernel_rfl) (res_cell (by kernel_rfl) (load_row (P := Pg) (h := h_103) (t := 41) (by kernel_rfl) (by kernel_rfl) e105) (res_tmp (by kernel_rfl) (res_tmp (by kernel_rfl) res_nil))) (by kernel_rfl)
      | false =>
       replace z := ifB_f z
       refine W.f ?_
       refine W.skip (by kernel_rfl) ?_
       refine n7 ?_
       refine n4 ?_
       refine W.s (fun _ n107 _ _ _ => ?_)
       refine W.r ?_
       refine WL.a (some 74) (strA t0) h_78 ?_
       refine WL.a (some 75) (.int .i64 t1) h_78 ?_
       replace z := oS z; obtain ⟨t76, e108, z⟩ := z
       refine WL.b (some 76) (.int .u8 t76) h_78 (index_str (P := Pg) (h := h_78) (t := 9) (k := .i64) (by kernel_rfl) e108) ?_
       replace z := callN_some z; obtain ⟨r77, h_109, e110, z⟩ := z
       replace z := oS z; obtain ⟨t77, c111, z⟩ := z
       have c111 := avAgg_some c111
       subst c111
       refine WL.c (hc.ok w0) (some 77) e110 ?_
       refine WL.a (some 78) (.int .i64 t1) h_109 ?_
       replace z := lS z; obtain ⟨t79, e112, z⟩ := z
       refine WL.val (d := (some 79)) (v := .int .i64 t79) (h' := h_109) (by kernel_rfl) (by kernel_rfl) (val_of (AV.int .i64) e112 (by kernel_rfl)) ?_
       replace z := oS z; obtain ⟨h_113, e114, z⟩ := z
       refine WL.e h_113 (store_row (P := Pg) (h := h_109) (t := 41) (v := (.agg t77)) (by kernel_rfl) (by kernel_rfl) e114) ?_
       refine WL.a (some 5) (.int .i64 t79) h_113 ?_
       refine WL.a (some 6) (.bool true) h_113 ?_
       refine WL.n ?_
       refine Go.weaken (l' := [(4, newP h), (5, .int .i64 t79), (6, .bool true)]) (Fr.c (Fr.c (Fr.c Fr.n))) ?_
       refine n107 ?_
       refine W.ret (by kernel_rfl) ?_
       replace z := oS z; obtain ⟨w4_116, e115, z⟩ := z
       obtain ⟨z, hF2⟩ := ret_inj z; subst z; subst hF2
       exact leave_of (rs := [.cell 4 41, .tmp 5, .tmp 6]) (vs := [.agg w4_116, .int .i64 t79, .bool true]) (by kernel_rfl) (res_cell (by kernel_rfl) (load_row (P := Pg) (h := h_113) (t := 41) (by kernel_rfl) (by kernel_rfl) e115) (res_tmp (by kernel_rfl) (res_tmp (by kernel_rfl) res_nil))) (by kernel_rfl)
    cases t51 with
    | true =>
     replace z := ifB_t z
     refine W.t ?_
     refine W.skip (by kernel_rfl) ?_
     exact Go.weaken (Fr.c (Fr.c (Fr.c (Fr.c (Fr.c Fr.n))))) (J77 _ _ z)
    | false =>
     replace z := ifB_f z
     refine W.f ?_
     refine W.s (fun _ n117 _ _ _ => ?_)
     refine W.r ?_
     replace z := lS z; obtain ⟨t52, e118, z⟩ := z
     refine WL.val (d := (some 52)) (v := .bool t52) (h' := h_2) (by kernel_rfl) (by kernel_rfl) (val_of AV.bool e118 (by kernel_rfl)) ?_
     refine WL.a (some 50) (.bool t52) h_2 ?_
     refine WL.n ?_
     refine Go.weaken (l' := [(0, strA t0), (1, .int .i64 t1), (4, newP h), (12, .int .u8 t12), (50, .bool t52)]) (Fr.c (Fr.c (Fr.c (Fr.c (Fr.c Fr.n))))) ?_
     refine n117 ?_
     replace z := lS z; obtain ⟨k119, e119, z⟩ := z
     have J119 : ∀ (t50_120 : Bool) (h_121 : AHeap), k119 t50_120 h_121 = some (rR, hR) → Go w0 m0 (Func.ntmps Try.f80) (K74 .normal) [(0, strA t0), (1, .int .i64 t1), (4, newP h), (12, .int .u8 t12), (50, .bool t50_120)] [] h_121 := by
      intro t50_120 h_121 z
      rw [e119] at z
      exact Go.weaken (Fr.c (Fr.c (Fr.c (Fr.c (Fr.c Fr.n))))) (J77 _ _ z)
     cases t52 with
     | true =>
      replace z := ifB_t z
      refine W.t ?_
      refine W.skip (by kernel_rfl) ?_
      exact Go.weaken (Fr.c (Fr.c (Fr.c (Fr.c (Fr.c Fr.n))))) (J119 _ _ z)
     | false =>
      replace z := ifB_f z
      refine W.f ?_
      refine W.s (fun _ n122 _ _ _ => ?_)
      refine W.r ?_
      replace z := lS z; obtain ⟨t53, e123, z⟩ := z
      refine WL.val (d := (some 53)) (v := .bool t53) (h' := h_2) (by kernel_rfl) (by kernel_rfl) (val_of AV.bool e123 (by kernel_rfl)) ?_
      refine WL.a (some 50) (.bool t53) h_2 ?_
      refine WL.n ?_
      refine Go.weaken (l' := [(0, strA t0), (1, .int .i64 t1), (4, newP h), (12, .int .u8 t12), (50, .bool t53)]) (Fr.c (Fr.c (Fr.c (Fr.c (Fr.c Fr.n))))) ?_
      refine n122 ?_
      replace z := lS z; obtain ⟨k124, e124, z⟩ := z
      have J124 : ∀ (t50_125 : Bool) (h_126 : AHeap), k124 t50_125 h_126 = some (rR, hR) → Go w0 m0 (Func.ntmps Try.f80) (K74 .normal) [(0, strA t0), (1, .int .i64 t1), (4, newP h), (12, .int .u8 t12), (50, .bool t50_125)] [] h_126 := by
       intro t50_125 h_126 z
       rw [e124] at z
       exact Go.weaken (Fr.c (Fr.c (Fr.c (Fr.c (Fr.c Fr.n))))) (J119 _ _ z)
      cases t53 with
      | true =>
       replace z := ifB_t z
       refine W.t ?_
       refine W.skip (by kernel_rfl) ?_
       exact Go.weaken (Fr.c (Fr.c (Fr.c (Fr.c (Fr.c Fr.n))))) (J124 _ _ z)
      | false =>
       replace z := ifB_f z
       refine W.f ?_
       refine W.r ?_
       replace z := lS z; obtain ⟨t54, e127, z⟩ := z
       refine WL.val (d := (some 54)) (v := .bool t54) (h' := h_2) (by kernel_rfl) (by kernel_rfl) (val_of AV.bool e127 (by kernel_rfl)) ?_
       refine WL.a (some 50) (.bool t54) h_2 ?_
       refine WL.n ?_
       refine Go.weaken (l' := [(0, strA t0), (1, .int .i64 t1), (4, newP h), (12, .int .u8 t12), (50, .bool t54)]) (Fr.c (Fr.c (Fr.c (Fr.c (Fr.c Fr.n))))) ?_
       exact Go.weaken (Fr.c (Fr.c (Fr.c (Fr.c (Fr.c Fr.n))))) (J124 _ _ z)
noncomputable def ref09_atom_fn (call : CallF) (n : Nat) : FnT := fun args h => match args with
 | [x0, x1] => obind (avStr x0) fun t0 => obind (avInt .i64 x1) fun t1 => ref09_atom call n t0 t1 h
 | _ => none
set_option maxRecDepth 100000 in
theorem ref09_atom_fn_eq (call : CallF) (n : Nat) (t0 : Bytes) (t1 : Int) (h : AHeap) : ref09_atom_fn call n [strA t0, .int .i64 t1] h = ref09_atom call n t0 t1 h :=
 (Eq.trans (obind_eq (fun t0 => obind (avInt .i64 (.int .i64 t1)) fun t1 => ref09_atom call n t0 t1 h) (avStr_str t0)) (Eq.trans (obind_eq (fun t1 => ref09_atom call n t0 t1 h) (avInt_int .i64 t1)) rfl))
theorem ref09_atom_holds {call : CallF} (hc : SaysAll Pg call) (n : Nat) : Holds Pg 80 (ref09_atom_fn call n) := by
 intro args h r h2 e
 unfold ref09_atom_fn at e
 split at e
 ·replace e := oS e; obtain ⟨t0, c0, e⟩ := e; have c0 := avStr_some c0; subst c0
  replace e := oS e; obtain ⟨t1, c1, e⟩ := e; have c1 := avInt_some c1; subst c1
  exact ref09_atom_ok hc e
 ·cases e
noncomputable def ref09_class_L2b (h_18 : AHeap) (t14 : Int) (k108 : AHeap → R) (self : Int → AHeap → R) (t15 : Int) (h_111 : AHeap) : R :=
 lett (IntKind.i64.wrap t14) fun (t90 : Int) =>
 lett (decide (t15 ≤ t90)) fun (t91 : Bool) =>
 ifB t91
 (
  obind (idxA 256 1 (newP h_18) t15) fun t95 =>
  obind (stRow h_111 1 [.bool true] t95) fun h_119 =>
  lett (IntKind.i64.wrap (t15 + 1)) fun (t93 : Int) =>
  self t93 h_119)
 (
  k108 h_111)
noncomputable def ref09_class_L2 (h_18 : AHeap) (t14 : Int) (k108 : AHeap → R) : Nat → Int → AHeap → R := iterR (fun _ _ => none) (ref09_class_L2b h_18 t14 k108)
theorem ref09_class_L2_s (h_18 : AHeap) (t14 : Int) (k108 : AHeap → R) (m : Nat) : ref09_class_L2 h_18 t14 k108 (m + 1) = ref09_class_L2b h_18 t14 k108 (ref09_class_L2 h_18 t14 k108 m) := rfl
noncomputable def ref09_class_L1b (call : CallF) (n : Nat) (t0 : Bytes) (h : AHeap) (h_18 : AHeap) (k25 : Int → AHeap → R) (self : Int → Bool → AHeap → R) (t1_65 : Int) (t10 : Bool) (h_66 : AHeap) : R :=
 lett (fun (t37 : Bool) (h_69 : AHeap) =>
  lett (fun (t43 : Bool) (h_72 : AHeap) =>
   ifB t43
   (
    callN (call 89 [strA t0, .int .i64 t1_65] h_72) fun r47 h_78 =>
    obind (extT 0 r47) fun v48 =>
    obind (avInt .u8 v48) fun t48 =>
    obind (extT 1 r47) fun v49 =>
    obind (avInt .i64 v49) fun t49 =>
    obind (extT 2 r47) fun v50 =>
    obind (avBool v50) fun t50 =>
    lett (!t50) fun (t52 : Bool) =>
    ifB t52
    (
     obind (stRow h_78 6 ([.int .i64 0, .int .u64 0, .int .u64 0, .int .u64 0, .int .u64 0, .nsl] : List AV) (newP h)) fun h_90 =>
     obind (ldRow h_90 6 (newP h)) fun w4_93 =>
     some (.ret (.tup [.agg w4_93, .int .i64 t49, .bool false]), h_90))
    (
     lett (decide (t49 < (lenS t0))) fun (t60 : Bool) =>
     lett (fun (t66 : Bool) (h_99 : AHeap) =>
      lett (fun (t1_103 : Int) (t14 : Int) (h_104 : AHeap) =>
       lett (IntKind.i64.wrap t48) fun (t87 : Int) =>
       lett (fun  (h_109 : AHeap) =>
        self t1_103 false h_109) fun k108 =>
       ref09_class_L2 h_18 t14 k108 n t87 h_104) fun k102 =>
      ifB t66
      (
       lett (IntKind.i64.wrap (t49 + 1)) fun (t70 : Int) =>
       callN (call 89 [strA t0, .int .i64 t70] h_99) fun r71 h_124 =>
       obind (extT 0 r71) fun v72 =>
       obind (avInt .u8 v72) fun t72 =>
       obind (extT 1 r71) fun v73 =>
       obind (avInt .i64 v73) fun t73 =>
       obind (extT 2 r71) fun v74 =>
       obind (avBool v74) fun t74 =>
       lett (!t74) fun (t76 : Bool) =>
       ifB t76
       (
        obind (stRow h_124 6 ([.int .i64 0, .int .u64 0, .int .u64 0, .int .u64 0, .int .u64 0, .nsl] : List AV) (newP h)) fun h_136 =>
        obind (ldRow h_136 6 (newP h)) fun w4_139 =>
        some (.ret (.tup [.agg w4_139, .int .i64 t73, .bool false]), h_136))
       (
        lett (decide (t72 < t48)) fun (t82 : Bool) =>
        ifB t82
        (
         lett (IntKind.i64.wrap (t73 - 1)) fun (t85 : Int) =>
         obind (stRow h_124 6 ([.int .i64 0, .int .u64 0, .int .u64 0, .int .u64 0, .int .u64 0, .nsl] : List AV) (newP h)) fun h_145 =>
         obind (ldRow h_145 6 (newP h)) fun w4_148 =>
         some (.ret (.tup [.agg w4_148, .int .i64 t85, .bool false]), h_145))
        (
         k102 t73 t72 h_124)))
      (
       k102 t49 t48 h_99)) fun j66 =>
     ifB t60
     (
      obind (idxS t0 t49) fun t64 =>
      lett ((t64 : Int) == 45) fun (t65 : Bool) =>
      j66 t65 h_78)
     (
      j66 false h_78)))
   (
    k25 t1_65 h_72)) fun j43 =>
  ifB t37
  (
   j43 true h_69)
  (
   obind (idxS t0 t1_65) fun t41 =>
   lett ((t41 : Int) != 93) fun (t42 : Bool) =>
   j43 t42 h_69)) fun j37 =>
 ifB t10
 (
  j37 true h_66)
 (
  lett ((t1_65 : Int) == (lenS t0)) fun (t36 : Bool) =>
  j37 t36 h_66)
noncomputable def ref09_class_L1 (call : CallF) (n : Nat) (t0 : Bytes) (h : AHeap) (h_18 : AHeap) (k25 : Int → AHeap → R) : Nat → Int → Bool → AHeap → R := iterR (fun _ _ _ => none) (ref09_class_L1b call n t0 h h_18 k25)
theorem ref09_class_L1_s (call : CallF) (n : Nat) (t0 : Bytes) (h : AHeap) (h_18 : AHeap) (k25 : Int → AHeap → R) (m : Nat) : ref09_class_L1 call n t0 h h_18 k25 (m + 1) = ref09_class_L1b call n t0 h h_18 k25 (ref09_class_L1 call n t0 h h_18 k25 m) := rfl
noncomputable def ref09_class_L0b (h_2 : AHeap) (t27 : Bool) (h_18 : AHeap) (k31 : AHeap → R) (self : Int → AHeap → R) (t16 : Int) (h_40 : AHeap) : R :=
 lett (decide (t16 < 256)) fun (t97 : Bool) =>
 ifB t97
 (
  obind (idxA 256 1 (newP h_18) t16) fun t101 =>
  obind (ldCell h_40 t101) fun v102 =>
  obind (avBool v102) fun t102 =>
  lett (!((t102 : Bool) == t27)) fun (t104 : Bool) =>
  lett (fun  (h_52 : AHeap) =>
   lett (IntKind.i64.wrap (t16 + 1)) fun (t99 : Int) =>
   self t99 h_52) fun k51 =>
  ifB t104
  (
   obind (quoI .i64 t16 64) fun t106 =>
   obind (idxA 4 1 (AV.ptr (AHeap.next h_2) 1) t106) fun t108 =>
   obind (ldCell h_40 t108) fun v109 =>
   obind (avInt .u64 v109) fun t109 =>
   obind (remI .i64 t16 64) fun t111 =>
   obind (shlI .u64 1 t111) fun t112 =>
   lett (orI .u64 t109 t112) fun (t113 : Int) =>
   obind (idxA 4 1 (AV.ptr (AHeap.next h_2) 1) t106) fun t115 =>
   obind (stRow h_40 1 [.int .u64 t113] t115) fun h_62 =>
   k51 h_62)
  (
   k51 h_40))
 (
  k31 h_40)
noncomputable def ref09_class_L0 (h_2 : AHeap) (t27 : Bool) (h_18 : AHeap) (k31 : AHeap → R) : Nat → Int → AHeap → R := iterR (fun _ _ => none) (ref09_class_L0b h_2 t27 h_18 k31)
theorem ref09_class_L0_s (h_2 : AHeap) (t27 : Bool) (h_18 : AHeap) (k31 : AHeap → R) (m : Nat) : ref09_class_L0 h_2 t27 h_18 k31 (m + 1) = ref09_class_L0b h_2 t27 h_18 k31 (ref09_class_L0 h_2 t27 h_18 k31 m) := rfl
noncomputable def ref09_class (call : CallF) (n : Nat) (t0 : Bytes) (t1 : Int) (h : AHeap) : R :=
 lett (newH h 41 [.int .i64 0, .int .u64 0, .int .u64 0, .int .u64 0, .int .u64 0, .nsl]) fun h_2 =>
 lett (newH h_2 41 [.int .i64 0, .int .u64 0, .int .u64 0, .int .u64 0, .int .u64 0, .nsl]) fun h_5 =>
 obind (stRow h_5 6 ([.int .i64 2, .int .u64 0, .int .u64 0, .int .u64 0, .int .u64 0, .nsl] : List AV) (newP h_2)) fun h_7 =>
 lett (decide (t1 < (lenS t0))) fun (t21 : Bool) =>
 lett (fun (t27 : Bool) (h_11 : AHeap) =>
  lett (fun (t1_17 : Int) (h_18 : AHeap) =>
   lett (newH h_18 109 [.bool false, .bool false, .bool false, .bool false, .bool false, .bool false, .bool false, .bool false, .bool false, .bool false, .bool false, .bool false, .bool false, .bool false, .bool false, .bool false, .bool false, .bool false, .bool false, .bool false, .bool false, .bool false, .bool false, .bool false, .bool false, .bool false, .bool false, .bool false, .bool false, .bool false, .bool false, .bool false, .bool false, .bool false, .bool false, .bool false, .bool false, .bool false, .bool false, .bool false, .bool false, .bool false, .bool false, .bool false, .bool false, .bool false, .bool false, .bool false, .bool false, .bool false, .bool false, .bool false, .bool false, .bool false, .bool false, .bool false, .bool false, .bool false, .bool false, .bool false, .bool false, .bool false, .bool false, .bool false, .bool false, .bool false, .bool false, .bool false, .bool false, .bool false, .bool false, .bool false, .bool false, .bool false, .bool false, .bool false, .bool false, .bool false, .bool false, .bool false, .bool false, .bool false, .bool false, .bool false, .bool false, .bool false, .bool false, .bool false, .bool false, .bool false, .bool false, .bool false, .bool false, .bool false, .bool false, .bool false, .bool false, .bool false, .bool false, .bool false, .bool false, .bool false, .bool false, .bool false, .bool false, .bool false, .bool false, .bool false, .bool false, .bool false, .bool false, .bool false, .bool false, .bool false, .bool false, .bool false, .bool false, .bool false, .bool false, .bool false, .bool false, .bool false, .bool false, .bool false, .bool false, .bool false, .bool false, .bool false, .bool false, .bool false, .bool false, .bool false, .bool false, .bool false, .bool false, .bool false, .bool false, .bool false, .bool false, .bool false, .bool false, .bool false, .bool false, .bool false, .bool false, .bool false, .bool false, .bool false, .bool false, .bool false, .bool false, .bool false, .bool false, .bool false, .bool false, .bool false, .bool false, .bool false, .bool false, .bool false, .bool false, .bool false, .bool false, .bool false, .bool false, .bool false, .bool false, .bool false, .bool false, .bool false, .bool false, .bool false, .bool false, .bool false, .bool false, .bool false, .bool false, .bool false, .bool false, .bool false, .bool false, .bool false, .bool false, .bool false, .bool false, .bool false, .bool false, .bool false, .bool false, .bool false, .bool false, .bool false, .bool false, .bool false, .bool false, .bool false, .bool false, .bool false, .bool false, .bool false, .bool false, .bool false, .bool false, .bool false, .bool false, .bool false, .bool false, .bool false, .bool false, .bool false, .bool false, .bool false, .bool false, .bool false, .bool false, .bool false, .bool false, .bool false, .bool false, .bool false, .bool false, .bool false, .bool false, .bool false, .bool false, .bool false, .bool false, .bool false, .bool false, .bool false, .bool false, .bool false, .bool false, .bool false, .bool false, .bool false, .bool false, .bool false, .bool false, .bool false, .bool false, .bool false, .bool false, .bool false, .bool false, .bool false, .bool false, .bool false, .bool false, .bool false, .bool false, .bool false, .bool false, .bool false, .bool false, .bool false]) fun h_20 =>
   lett (fun (t1_26 : Int) (h_27 : AHeap) =>
    lett (fun  (h_32 : AHeap) =>
     obind (ldRow h_32 6 (newP h_2)) fun t116 =>
     lett (IntKind.i64.wrap (t1_26 + 1)) fun (t118 : Int) =>
     obind (stRow h_32 6 t116 (newP h)) fun h_36 =>
     obind (ldRow h_36 6 (newP h)) fun w4 =>
     some (.ret (.tup [.agg w4, .int .i64 t118, .bool true]), h_36)) fun k31 =>
    ref09_class_L0 h_2 t27 h_18 k31 n 0 h_27) fun k25 =>
   ref09_class_L1 call n t0 h h_18 k25 n t1_17 true h_20) fun k16 =>
  ifB t27
  (
   lett (IntKind.i64.wrap (t1 + 1)) fun (t30 : Int) =>
   k16 t30 h_11)
  (
   k16 t1 h_11)) fun j27 =>
 ifB t21
 (
  obind (idxS t0 t1) fun t25 =>
  lett ((t25 : Int) == 94) fun (t26 : Bool) =>
  j27 t26 h_7)
 (
  j27 false h_7)
theorem ref09_class_ok {call : CallF} (hc : SaysAll Pg call) {n : Nat} {t0 : Bytes} {t1 : Int} {h : AHeap} {rR : ARes} {hR : AHeap} (z : ref09_class call n t0 t1 h = some (rR, hR)) : Says Pg 86 [strA t0, .int .i64 t1] h rR hR := by
 unfold ref09_class at z
 refine says_of (fn := Try.f86) Try.func86 (c := codeOf Try.f86) (by kernel_rfl) (by kernel_rfl) (fun w0 m0 => ?_)
 refine W.weaken (l' := [(0, strA t0), (1, .int .i64 t1)]) (Fr.c (Fr.c Fr.n)) ?_
 refine W.s (fun _ n1 _ _ p1 => ?_)
 refine W.r ?_
 replace z := lS z; obtain ⟨h_2, e3, z⟩ := z
 refine WL.val (d := (some 4)) (v := (newP h)) (h' := h_2) (by kernel_rfl) (by kernel_rfl) (val_ofH e3 (by kernel_rfl)) ?_
 refine WL.a (some 5) (.int .i64 0) h_2 ?_
 refine WL.a (some 6) (.bool false) h_2 ?_
 refine WL.n ?_
 refine Go.weaken (l' := [(0, strA t0), (1, .int .i64 t1), (4, newP h)]) (Fr.c (Fr.c (Fr.c Fr.n))) ?_
 refine n1 ?_
 refine W.s (fun _ n4 _ _ _ => ?_)
 refine W.r ?_
 refine WL.a (some 17) (.agg ([.int .i64 2, .int .u64 0, .int .u64 0, .int .u64 0, .int .u64 0, .nsl] : List AV)) h_2 ?_
 replace z := lS z; obtain ⟨h_5, e6, z⟩ := z
 refine WL.val (d := (some 7)) (v := (newP h_2)) (h' := h_5) (by kernel_rfl) (by kernel_rfl) (val_ofH e6 (by kernel_rfl)) ?_
 replace z := oS z; obtain ⟨h_7, e8, z⟩ := z
 refine WL.e h_7 (store_row (P := Pg) (h := h_5) (t := 41) (v := (.agg ([.int .i64 2, .int .u64 0, .int .u64 0, .int .u64 0, .int .u64 0, .nsl] : List AV))) (by kernel_rfl) (by kernel_rfl) e8) ?_
 refine WL.n ?_
 refine Go.weaken (l' := [(0, strA t0), (1, .int .i64 t1), (4, newP h), (7, newP h_2)]) (Fr.c (Fr.c (Fr.c (Fr.c Fr.n)))) ?_
 refine n4 ?_
 refine W.s (fun K9 n9 _ _ _ => ?_)
 refine W.r ?_
 refine WL.a (some 18) (.int .i64 t1) h_7 ?_
 refine WL.a (some 19) (strA t0) h_7 ?_
 refine WL.a (some 20) (.int .i64 (lenS t0)) h_7 ?_
 replace z := lS z; obtain ⟨t21, e10, z⟩ := z
 refine WL.val (d := (some 21)) (v := .bool t21) (h' := h_7) (by kernel_rfl) (by kernel_rfl) (val_of AV.bool e10 (by kernel_rfl)) ?_
 refine WL.a (some 22) (.bool t21) h_7 ?_
 replace z := lS z; obtain ⟨j27, e12, z⟩ := z
 have J13 : ∀ (t27 : Bool) (h_11 : AHeap), j27 t27 h_11 = some (rR, hR) → WL Pg w0 m0 (Func.ntmps Try.f86) (Code.ops (Code.p1 (Code.p2 (Code.p2 (codeOf Try.f86))))) 10 K9 [(0, strA t0), (1, .int .i64 t1), (4, newP h), (7, newP h_2), (27, .bool t27)] [] h_11 := by
  intro t27 h_11 z
  rw [e12] at z
  refine WL.a (some 8) (.bool t27) h_11 ?_
  refine WL.n ?_
  refine Go.weaken (l' := [(0, strA t0), (1, .int .i64 t1), (4, newP h), (7, newP h_2), (8, .bool t27)]) (Fr.c (Fr.c (Fr.c (Fr.c (Fr.c Fr.n))))) ?_
  refine n9 ?_
  refine W.s (fun K14 n14 _ _ _ => ?_)
  refine W.s (fun _ n15 _ _ _ => ?_)
  refine W.r ?_
  refine WL.a (some 28) (.bool t27) h_11 ?_
  refine WL.n ?_
  refine Go.weaken (l' := [(0, strA t0), (1, .int .i64 t1), (4, newP h), (7, newP h_2), (8, .bool t27), (28, .bool t27)]) (Fr.c (Fr.c (Fr.c (Fr.c (Fr.c (Fr.c Fr.n)))))) ?_
  refine n15 ?_
  replace z := lS z; obtain ⟨k16, e16, z⟩ := z
  have J16 : ∀ (t1_17 : Int) (h_18 : AHeap), k16 t1_17 h_18 = some (rR, hR) → Go w0 m0 (Func.ntmps Try.f86) (K14 .normal) [(0, strA t0), (1, .int .i64 t1_17), (4, newP h), (7, newP h_2), (8, .bool t27)] [] h_18 := by
   intro t1_17 h_18 z
   rw [e16] at z
   refine n14 ?_
   refine W.s (fun _ n19 _ _ _ => ?_)
   refine W.r ?_
   replace z := lS z; obtain ⟨h_20, e21, z⟩ := z
   refine WL.val (d := (some 9)) (v := (newP h_18)) (h' := h_20) (by kernel_rfl) (by kernel_rfl) (val_ofH e21 (by kernel_rfl)) ?_
   refine WL.n ?_
   refine Go.weaken (l' := [(0, strA t0), (1, .int .i64 t1_17), (4, newP h), (7, newP h_2), (8, .bool t27), (9, newP h_18)]) (Fr.c (Fr.c (Fr.c (Fr.c (Fr.c (Fr.c Fr.n)))))) ?_
   refine n19 ?_
   refine W.s (fun _ n22 _ _ _ => ?_)
   refine W.r ?_
   refine WL.a (some 10) (.bool true) h_20 ?_
   refine WL.n ?_
   refine Go.weaken (l' := [(0, strA t0), (1, .int .i64 t1_17), (4, newP h), (7, newP h_2), (8, .bool t27), (9, newP h_18), (10, .bool true)]) (Fr.c (Fr.c (Fr.c (Fr.c (Fr.c (Fr.c (Fr.c Fr.n))))))) ?_
   refine n22 ?_
   refine W.s (fun K23 n23 _ q23 _ => ?_)
   replace z := lS z; obtain ⟨k25, e25, z⟩ := z
   have J25 : ∀ (t1_26 : Int) (h_27 : AHeap), k25 t1_26 h_27 = some (rR, hR) → Go w0 m0 (Func.ntmps Try.f86) (K23 .normal) [(1, .int .i64 t1_26), (4, newP h), (7, newP h_2), (8, .bool t27), (9, newP h_18)] [] h_27 := by
    intro t1_26 h_27 z
    rw [e25] at z
    refine n23 ?_
    refine W.s (fun K28 n28 _ _ _ => ?_)
    refine W.s (fun _ n29 _ _ _ => ?_)
    refine W.r ?_
    refine WL.a (some 16) (.int .i64 0) h_27 ?_
    refine WL.n ?_
    refine Go.weaken (l' := [(1, .int .i64 t1_26), (4, newP h), (7, newP h_2), (8, .bool t27), (9, newP h_18), (16, .int .i64 0)]) (Fr.c (Fr.c (Fr.c (Fr.c (Fr.c (Fr.c Fr.n)))))) ?_
    refine n29 ?_
    replace z := lS z; obtain ⟨k31, e31, z⟩ := z
    have J31 : ∀  (h_32 : AHeap), k31 h_32 = some (rR, hR) → Go w0 m0 (Func.ntmps Try.f86) (K28 .normal) [(1, .int .i64 t1_26), (4, newP h), (7, newP h_2)] [] h_32 := by
     intro  h_32 z
     rw [e31] at z
     refine n28 ?_
     refine W.s (fun _ n33 _ _ _ => ?_)
     refine W.r ?_
     replace z := oS z; obtain ⟨t116, e34, z⟩ := z
     refine WL.b (some 116) (.agg t116) h_32 (load_row (P := Pg) (h := h_32) (t := 41) (by kernel_rfl) (by kernel_rfl) e34) ?_
     refine WL.a (some 117) (.int .i64 t1_26) h_32 ?_
     replace z := lS z; obtain ⟨t118, e35, z⟩ := z
     refine WL.val (d := (some 118)) (v := .int .i64 t118) (h' := h_32) (by kernel_rfl) (by kernel_rfl) (val_of (AV.int .i64) e35 (by kernel_rfl)) ?_
     replace z := oS z; obtain ⟨h_36, e37, z⟩ := z
     refine WL.e h_36 (store_row (P := Pg) (h := h_32) (t := 41) (v := (.agg t116)) (by kernel_rfl) (by kernel_rfl) e37) ?_
     refine WL.a (some 5) (.int .i64 t118) h_36 ?_
     refine WL.a (some 6) (.bool true) h_36 ?_
     refine WL.n ?_
     refine Go.weaken (l' := [(4, newP h), (5, .int .i64 t118), (6, .bool true)]) (Fr.c (Fr.c (Fr.c Fr.n))) ?_
     refine n33 ?_
     refine W.ret (by kernel_rfl) ?_
     replace z := oS z; obtain ⟨w4, e38, z⟩ := z
     obtain ⟨z, hF2⟩ := ret_inj z; subst z; subst hF2
     exact leave_of (rs := [.cell 4 41, .tmp 5, .tmp 6]) (vs := [.agg w4, .int .i64 t118, .bool true]) (by kernel_rfl) (res_cell (by kernel_rfl) (load_row (P := Pg) (h := h_36) (t := 41) (by kernel_rfl) (by kernel_rfl) e38) (res_tmp (by kernel_rfl) (res_tmp (by kernel_rfl) res_nil))) (by kernel_rfl)
    refine W.blockK (by kernel_rfl) (fun K30 n30 s30 o30 q30 p30 => ?_)
    refine W.loopK (by kernel_rfl) (fun I39 K39 b39 n39 e39 q39 p39 => ?_)
    have L39 : ∀ (m : Nat) (t16 : Int) (h_40 : AHeap), ref09_class_L0 h_2 t27 h_18 k31 m t16 h_40 = some (rR, hR) → Go w0 m0 (Func.ntmps Try.f86) I39 [(1, .int .i64 t1_26), (4, newP h), (7, newP h_2), (8, .bool t27), (9, newP h_18), (16, .int .i64 t16)] [] h_40 := by
     intro m
     induction m with
     | zero => intro t16 h_40 z; cases z
     | succ m ih39 =>
      intro t16 h_40 z
      rw [ref09_class_L0_s] at z; unfold ref09_class_L0b at z
      refine b39 ?_
      refine W.s (fun _ n41 e41 _ _ => ?_)
      refine W.s (fun _ n42 _ _ _ => ?_)
      refine W.r ?_
      refine WL.a (some 96) (.int .i64 t16) h_40 ?_
      replace z := lS z; obtain ⟨t97, e43, z⟩ := z
      refine WL.val (d := (some 97)) (v := .bool t97) (h' := h_40) (by kernel_rfl) (by kernel_rfl) (val_of AV.bool e43 (by kernel_rfl)) ?_
      refine WL.n ?_
      refine Go.weaken (l' := [(1, .int .i64 t1_26), (4, newP h), (7, newP h_2), (8, .bool t27), (9, newP h_18), (16, .int .i64 t16), (97, .bool t97)]) (Fr.c (Fr.c (Fr.c (Fr.c (Fr.c (Fr.c (Fr.c Fr.n))))))) ?_
      refine n42 ?_
      cases t97 with
      | true =>
       replace z := ifB_t z
       refine W.t ?_
       refine W.skip (by kernel_rfl) ?_
       refine n41 ?_
       refine W.s (fun _ n44 _ _ _ => ?_)
       refine W.blockK (by kernel_rfl) (fun K45 n45 s45 o45 q45 p45 => ?_)
       refine W.s (fun _ n46 _ _ _ => ?_)
       refine W.r ?_
       refine WL.a (some 100) (.int .i64 t16) h_40 ?_
       replace z := oS z; obtain ⟨t101, e47, z⟩ := z
       refine WL.b (some 101) t101 h_40 (index_arr (P := Pg) (h := h_40) (t := 109) (e' := 4) (k := .i64) (by kernel_rfl) (by kernel_rfl) (by kernel_rfl) e47) ?_
       replace z := oS z; obtain ⟨v102, e48, z⟩ := z
       replace z := oS z; obtain ⟨t102, c49, z⟩ := z
       have c49 := avBool_some c49
       subst c49
       refine WL.b (some 102) (.bool t102) h_40 (load_cell (P := Pg) (h := h_40) (t := 4) (by kernel_rfl) e48) ?_
       refine WL.a (some 103) (.bool t27) h_40 ?_
       replace z := lS z; obtain ⟨t104, e50, z⟩ := z
       refine WL.val (d := (some 104)) (v := .bool t104) (h' := h_40) (by kernel_rfl) (by kernel_rfl) (val_of AV.bool e50 (by kernel_rfl)) ?_
       refine WL.n ?_
       refine Go.weaken (l' := [(1, .int .i64 t1_26), (4, newP h), (7, newP h_2), (8, .bool t27), (9, newP h_18), (16, .int .i64 t16), (104, .bool t104)]) (Fr.c (Fr.c (Fr.c (Fr.c (Fr.c (Fr.c (Fr.c Fr.n))))))) ?_
       refine n46 ?_
       replace z := lS z; obtain ⟨k51, e51, z⟩ := z
       have J51 : ∀  (h_52 : AHeap), k51 h_52 = some (rR, hR) → Go w0 m0 (Func.ntmps Try.f86) (K45 .normal) [(1, .int .i64 t1_26), (4, newP h), (7, newP h_2), (8, .bool t27), (9, newP h_18), (16, .int .i64 t16)] [] h_52 := by
        intro  h_52 z
        rw [e51] at z
        refine n45 ?_
        refine n44 ?_
        refine W.r ?_
        refine WL.a (some 98) (.int .i64 t16) h_52 ?_
        replace z := lS z; obtain ⟨t99, e53, z⟩ := z
        refine WL.val (d := (some 99)) (v := .int .i64 t99) (h' := h_52) (by kernel_rfl) (by kernel_rfl) (val_of (AV.int .i64) e53 (by kernel_rfl)) ?_
        refine WL.a (some 16) (.int .i64 t99) h_52 ?_
        refine WL.n ?_
        refine Go.weaken (l' := [(1, .int .i64 t1_26), (4, newP h), (7, newP h_2), (8, .bool t27), (9, newP h_18), (16, .int .i64 t99)]) (Fr.c (Fr.c (Fr.c (Fr.c (Fr.c (Fr.c Fr.n)))))) ?_
        refine n39 ?_
        exact Go.weaken (Fr.c (Fr.c (Fr.c (Fr.c (Fr.c (Fr.c Fr.n)))))) (ih39 _ _ z)
       cases t104 with
       | true =>
        replace z := ifB_t z
        refine W.t ?_
        refine W.draw (by kernel_rfl) (hc.ok w0) (plan := [0, 1, 2, 3, 4, 5, 6, 7, 8, 9, 10, 11]) (by kernel_rfl) (by kernel_rfl) (by kernel_rfl) ?_
        refine WD.a 0 (some 105) (.int .i64 t16) h_40 ?_
        replace z := oS z; obtain ⟨t106, e54, z⟩ := z
        refine WD.b 0 (some 106) (.int .i64 t106) h_40 (quo_int (P := Pg) (h := h_40) (t := 3) (lit := true) e54) ?_
        refine WD.a 0 (some 107) (AV.ptr (AHeap.next h_2) 1) h_40 ?_
        replace z := oS z; obtain ⟨t108, e55, z⟩ := z
        refine WD.b 0 (some 108) t108 h_40 (index_arr (P := Pg) (h := h_40) (t := 38) (e' := 36) (k := .i64) (by kernel_rfl) (by kernel_rfl) (by kernel_rfl) e55) ?_
        replace z := oS z; obtain ⟨v109, e56, z⟩ := z
        replace z := oS z; obtain ⟨t109, c57, z⟩ := z
        have c57 := avInt_some c57
        subst c57
        refine WD.b 1 (some 109) (.int .u64 t109) h_40 (load_cell (P := Pg) (h := h_40) (t := 36) (by kernel_rfl) e56) ?_
        refine WD.a 0 (some 110) (.int .i64 t16) h_40 ?_
        replace z := oS z; obtain ⟨t111, e58, z⟩ := z
        refine WD.b 0 (some 111) (.int .i64 t111) h_40 (rem_int (P := Pg) (h := h_40) (t := 3) (lit := true) e58) ?_
        replace z := oS z; obtain ⟨t112, e59, z⟩ := z
        refine WD.b 0 (some 112) (.int .u64 t112) h_40 (shl_int (P := Pg) (h := h_40) (t := 36) (k' := .i64) (lit := true) e59) ?_
        replace z := lS z; obtain ⟨t113, e60, z⟩ := z
        refine WD.val (d := (some 113)) (v := .int .u64 t113) (h' := h_40) (by kernel_rfl) (by kernel_rfl) (val_of (AV.int .u64) e60 (by kernel_rfl)) (k := 0) (by kernel_rfl) (fun e => absurd e (by decide)) (by decide) ?_
        refine WD.a 0 (some 114) (AV.ptr (AHeap.next h_2) 1) h_40 ?_
        replace z := oS z; obtain ⟨t115, e61, z⟩ := z
        refine WD.b 0 (some 115) t115 h_40 (index_arr (P := Pg) (h := h_40) (t := 38) (e' := 36) (k := .i64) (by kernel_rfl) (by kernel_rfl) (by kernel_rfl) e61) ?_
        replace z := oS z; obtain ⟨h_62, e63, z⟩ := z
        refine WD.eff (h' := h_62) (by kernel_rfl) (by kernel_rfl) (Eq.trans (by kernel_rfl) (store_row (P := Pg) (h := h_40) (t := 36) (v := (.int .u64 t113)) (by kernel_rfl) (by kernel_rfl) e63)) (k := 2) (by kernel_rfl) (fun _ => (by kernel_rfl)) (by decide) ?_
        refine WD.nil ?_
        refine Go.weaken (l' := [(1, .int .i64 t1_26), (4, newP h), (7, newP h_2), (8, .bool t27), (9, newP h_18), (16, .int .i64 t16)]) (Fr.c (Fr.c (Fr.c (Fr.c (Fr.c (Fr.c Fr.n)))))) ?_
        exact Go.weaken (Fr.c (Fr.c (Fr.c (Fr.c (Fr.c (Fr.c Fr.n)))))) (J51 _ z)
       | false =>
        replace z := ifB_f z
        refine W.f ?_
        refine W.skip (by kernel_rfl) ?_
        exact Go.weaken (Fr.c (Fr.c (Fr.c (Fr.c (Fr.c (Fr.c Fr.n)))))) (J51 _ z)
      | false =>
       replace z := ifB_f z
       refine W.f ?_
       refine W.exit (by kernel_rfl) ?_
       refine e41 ?_
       refine e39 ?_
       refine s30 (by kernel_rfl) ?_
       exact Go.weaken (Fr.c (Fr.c (Fr.c Fr.n))) (J31 _ z)
    exact Go.weaken (Fr.c (Fr.c (Fr.c (Fr.c (Fr.c (Fr.c Fr.n)))))) (L39 _ _ _ z)
   refine W.blockK (by kernel_rfl) (fun K24 n24 s24 o24 q24 p24 => ?_)
   refine W.loopK (by kernel_rfl) (fun I64 K64 b64 n64 e64 q64 p64 => ?_)
   have L64 : ∀ (m : Nat) (t1_65 : Int) (t10 : Bool) (h_66 : AHeap), ref09_class_L1 call n t0 h h_18 k25 m t1_65 t10 h_66 = some (rR, hR) → Go w0 m0 (Func.ntmps Try.f86) I64 [(0, strA t0), (1, .int .i64 t1_65), (4, newP h), (7, newP h_2), (8, .bool t27), (9, newP h_18), (10, .bool t10)] [] h_66 := by
    intro m
    induction m with
    | zero => intro t1_65 t10 h_66 z; cases z
    | succ m ih64 =>
     intro t1_65 t10 h_66 z
     rw [ref09_class_L1_s] at z; unfold ref09_class_L1b at z
     refine b64 ?_
     refine W.s (fun _ n67 e67 _ _ => ?_)
     refine W.s (fun K68 n68 _ _ _ => ?_)
     refine W.r ?_
     refine WL.a (some 31) (.bool t10) h_66 ?_
     refine WL.a (some 32) (.bool t10) h_66 ?_
     replace z := lS z; obtain ⟨j37, e70, z⟩ := z
     have J71 : ∀ (t37 : Bool) (h_69 : AHeap), j37 t37 h_69 = some (rR, hR) → WL Pg w0 m0 (Func.ntmps Try.f86) (Code.ops (Code.p1 (Code.p1 (Code.p1 (Code.p1 (Code.p1 (Code.p2 (Code.p2 (Code.p2 (Code.p2 (Code.p2 (Code.p2 (codeOf Try.f86))))))))))))) 7 K68 [(0, strA t0), (1, .int .i64 t1_65), (4, newP h), (7, newP h_2), (8, .bool t27), (9, newP h_18), (37, .bool t37)] [] h_69 := by
      intro t37 h_69 z
      rw [e70] at z
      refine WL.a (some 38) (.bool t37) h_69 ?_
      replace z := lS z; obtain ⟨j43, e73, z⟩ := z
      have J74 : ∀ (t43 : Bool) (h_72 : AHeap), j43 t43 h_72 = some (rR, hR) → WL Pg w0 m0 (Func.ntmps Try.f86) (Code.ops (Code.p1 (Code.p1 (Code.p1 (Code.p1 (Code.p1 (Code.p2 (Code.p2 (Code.p2 (Code.p2 (Code.p2 (Code.p2 (codeOf Try.f86))))))))))))) 13 K68 [(0, strA t0), (1, .int .i64 t1_65), (4, newP h), (7, newP h_2), (8, .bool t27), (9, newP h_18), (43, .bool t43)] [] h_72 := by
       intro t43 h_72 z
       rw [e73] at z
       refine WL.n ?_
       refine Go.weaken (l' := [(0, strA t0), (1, .int .i64 t1_65), (4, newP h), (7, newP h_2), (8, .bool t27), (9, newP h_18), (43, .bool t43)]) (Fr.c (Fr.c (Fr.c (Fr.c (Fr.c (Fr.c (Fr.c Fr.n))))))) ?_
       refine n68 ?_
       cases t43 with
       | true =>
        replace z := ifB_t z
        refine W.t ?_
        refine W.skip (by kernel_rfl) ?_
        refine n67 ?_
        refine W.blockK (by kernel_rfl) (fun K75 n75 s75 o75 q75 p75 => ?_)
        refine W.s (fun _ n76 _ _ _ => ?_)
        refine W.r ?_
        refine WL.a (some 10) (.bool false) h_72 ?_
        refine WL.n ?_
        refine Go.weaken (l' := [(0, strA t0), (1, .int .i64 t1_65), (4, newP h), (7, newP h_2), (8, .bool t27), (9, newP h_18), (10, .bool false)]) (Fr.c (Fr.c (Fr.c (Fr.c (Fr.c (Fr.c (Fr.c Fr.n))))))) ?_
        refine n76 ?_
        refine W.s (fun _ n77 _ _ _ => ?_)
        refine W.r ?_
        refine WL.a (some 45) (strA t0) h_72 ?_
        refine WL.a (some 46) (.int .i64 t1_65) h_72 ?_
        replace z := callN_some z; obtain ⟨r47, h_78, e79, z⟩ := z
        refine WL.c (hc.ok w0) (some 47) e79 ?_
        refine WL.a (some 44) r47 h_78 ?_
        replace z := oS z; obtain ⟨v48, e80, z⟩ := z
        replace z := oS z; obtain ⟨t48, c81, z⟩ := z
        have c81 := avInt_some c81
        subst c81
        refine WL.b (some 48) (.int .u8 t48) h_78 (extract_tup (h := h_78) e80) ?_
        replace z := oS z; obtain ⟨v49, e82, z⟩ := z
        replace z := oS z; obtain ⟨t49, c83, z⟩ := z
        have c83 := avInt_some c83
        subst c83
        refine WL.b (some 49) (.int .i64 t49) h_78 (extract_tup (h := h_78) e82) ?_
        replace z := oS z; obtain ⟨v50, e84, z⟩ := z
        replace z := oS z; obtain ⟨t50, c85, z⟩ := z
        have c85 := avBool_some c85
        subst c85
        refine WL.b (some 50) (.bool t50) h_78 (extract_tup (h := h_78) e84) ?_
        refine WL.a (some 11) (.int .u8 t48) h_78 ?_
        refine WL.a (some 12) (.int .i64 t49) h_78 ?_
        refine WL.a (some 13) (.bool t50) h_78 ?_
        refine WL.n ?_
        refine Go.weaken (l' := [(0, strA t0), (4, newP h), (7, newP h_2), (8, .bool t27), (9, newP h_18), (10, .bool false), (11, .int .u8 t48), (12, .int .i64 t49), (13, .bool t50)]) (Fr.c (Fr.c (Fr.c (Fr.c (Fr.c (Fr.c (Fr.c (Fr.c (Fr.c Fr.n))))))))) ?_
        refine n77 ?_
        refine W.s (fun _ n86 _ q86 _ => ?_)
        refine W.s (fun _ n87 _ _ _ => ?_)
        refine W.r ?_
        refine WL.a (some 51) (.bool t50) h_78 ?_
        replace z := lS z; obtain ⟨t52, e88, z⟩ := z
        refine WL.val (d := (some 52)) (v := .bool t52) (h' := h_78) (by kernel_rfl) (by kernel_rfl) (val_of AV.bool e88 (by kernel_rfl)) ?_
        refine WL.n ?_
        refine Go.weaken (l' := [(0, strA t0), (4, newP h), (7, newP h_2), (8, .bool t27), (9, newP h_18), (10, .bool false), (11, .int .u8 t48), (12, .int .i64 t49), (52, .bool t52)]) (Fr.c (Fr.c (Fr.c (Fr.c (Fr.c (Fr.c (Fr.c (Fr.c (Fr.c Fr.n))))))))) ?_
        refine n87 ?_
        cases t52 with
        | true =>
         replace z := ifB_t z
         refine W.t ?_
         refine W.s (fun _ n89 _ _ _ => ?_)
         refine W.r ?_
         refine WL.a (some 53) (.agg ([.int .i64 0, .int .u64 0, .int .u64 0, .int .u64 0, .int .u64 0, .nsl] : List AV)) h_78 ?_
         refine WL.a (some 54) (.int .i64 t49) h_78 ?_
         replace z := oS z; obtain ⟨h_90, e91, z⟩ := z
         refine WL.e h_90 (store_row (P := Pg) (h := h_78) (t := 41) (v := (.agg ([.int .i64 0, .int .u64 0, .int .u64 0, .int .u64 0, .int .u64 0, .nsl] : List AV))) (by kernel_rfl) (by kernel_rfl) e91) ?_
         refine WL.a (some 5) (.int .i64 t49) h_90 ?_
         refine WL.a (some 6) (.bool false) h_90 ?_
         refine WL.n ?_
         refine Go.weaken (l' := [(4, newP h), (5, .int .i64 t49), (6, .bool false)]) (Fr.c (Fr.c (Fr.c Fr.n))) ?_
         refine n89 ?_
         refine W.ret (by kernel_rfl) ?_
         refine q86 ?_
         refine q75 ?_
         refine q64 ?_
         refine q24 ?_
         refine q23 ?_
         replace z := oS z; obtain ⟨w4_93, e92, z⟩ := z
         obtain ⟨z, hF2⟩ := ret_inj z; subst z; subst hF2
         exact leave_of (rs := [.cell 4 41, .tmp 5, .tmp 6]) (vs := [.agg w4_93, .int .i64 t49, .bool false]) (by kernel_rfl) (res_cell (by kernel_rfl) (load_row (P := Pg) (h := h_90) (t := 41) (by kernel_rfl) (by kernel_rfl) e92) (res_tmp (by kernel_rfl) (res_tmp (by kernel_rfl) res_nil))) (by kernel_rfl)
        | false =>
         replace z := ifB_f z
         refine W.f ?_
         refine W.skip (by kernel_rfl) ?_
         refine n86 ?_
         refine W.s (fun _ n94 _ _ _ => ?_)
         refine W.r ?_
         refine WL.a (some 55) (.int .i64 t49) h_78 ?_
         refine WL.a (some 1) (.int .i64 t49) h_78 ?_
         refine WL.n ?_
         refine Go.weaken (l' := [(0, strA t0), (1, .int .i64 t49), (4, newP h), (7, newP h_2), (8, .bool t27), (9, newP h_18), (10, .bool false), (11, .int .u8 t48)]) (Fr.c (Fr.c (Fr.c (Fr.c (Fr.c (Fr.c (Fr.c (Fr.c Fr.n)))))))) ?_
         refine n94 ?_
         refine W.s (fun _ n95 _ _ _ => ?_)
         refine W.r ?_
         refine WL.a (some 56) (.int .u8 t48) h_78 ?_
         refine WL.a (some 14) (.int .u8 t48) h_78 ?_
         refine WL.n ?_
         refine Go.weaken (l' := [(0, strA t0), (1, .int .i64 t49), (4, newP h), (7, newP h_2), (8, .bool t27), (9, newP h_18), (10, .bool false), (11, .int .u8 t48), (14, .int .u8 t48)]) (Fr.c (Fr.c (Fr.c (Fr.c (Fr.c (Fr.c (Fr.c (Fr.c (Fr.c Fr.n))))))))) ?_
         refine n95 ?_
         refine W.s (fun K96 n96 _ q96 _ => ?_)
         refine W.s (fun K97 n97 _ _ _ => ?_)
         refine W.r ?_
         refine WL.a (some 57) (.int .i64 t49) h_78 ?_
         refine WL.a (some 58) (strA t0) h_78 ?_
         refine WL.a (some 59) (.int .i64 (lenS t0)) h_78 ?_
         replace z := lS z; obtain ⟨t60, e98, z⟩ := z
         refine WL.val (d := (some 60)) (v := .bool t60) (h' := h_78) (by kernel_rfl) (by kernel_rfl) (val_of AV.bool e98 (by kernel_rfl)) ?_
         refine WL.a (some 61) (.bool t60) h_78 ?_
         replace z := lS z; obtain ⟨j66, e100, z⟩ := z
         have J101 : ∀ (t66 : Bool) (h_99 : AHeap), j66 t66 h_99 = some (rR, hR) → WL Pg w0 m0 (Func.ntmps Try.f86) (Code.ops (Code.p1 (Code.p1 (Code.p2 (Code.p2 (Code.p2 (Code.p2 (Code.p2 (Code.p1 (Code.p2 (Code.p1 (Code.p1 (Code.p1 (Code.p2 (Code.p2 (Code.p2 (Code.p2 (Code.p2 (Code.p2 (codeOf Try.f86)))))))))))))))))))) 10 K97 [(0, strA t0), (1, .int .i64 t49), (4, newP h), (7, newP h_2), (8, .bool t27), (9, newP h_18), (10, .bool false), (11, .int .u8 t48), (14, .int .u8 t48), (66, .bool t66)] [] h_99 := by
          intro t66 h_99 z
          rw [e100] at z
          refine WL.n ?_
          refine Go.weaken (l' := [(0, strA t0), (1, .int .i64 t49), (4, newP h), (7, newP h_2), (8, .bool t27), (9, newP h_18), (10, .bool false), (11, .int .u8 t48), (14, .int .u8 t48), (66, .bool t66)]) (Fr.c (Fr.c (Fr.c (Fr.c (Fr.c (Fr.c (Fr.c (Fr.c (Fr.c (Fr.c Fr.n)))))))))) ?_
          refine n97 ?_
          replace z := lS z; obtain ⟨k102, e102, z⟩ := z
          have J102 : ∀ (t1_103 : Int) (t14 : Int) (h_104 : AHeap), k102 t1_103 t14 h_104 = some (rR, hR) → Go w0 m0 (Func.ntmps Try.f86) (K96 .normal) [(0, strA t0), (1, .int .i64 t1_103), (4, newP h), (7, newP h_2), (8, .bool t27), (9, newP h_18), (10, .bool false), (11, .int .u8 t48), (14, .int .u8 t14)] [] h_104 := by
           intro t1_103 t14 h_104 z
           rw [e102] at z
           refine n96 ?_
           refine W.s (fun _ n105 _ _ _ => ?_)
           refine W.r ?_
           refine WL.a (some 86) (.int .u8 t48) h_104 ?_
           replace z := lS z; obtain ⟨t87, e106, z⟩ := z
           refine WL.val (d := (some 87)) (v := .int .i64 t87) (h' := h_104) (by kernel_rfl) (by kernel_rfl) (val_of (AV.int .i64) e106 (by kernel_rfl)) ?_
           refine WL.a (some 15) (.int .i64 t87) h_104 ?_
           refine WL.n ?_
           refine Go.weaken (l' := [(0, strA t0), (1, .int .i64 t1_103), (4, newP h), (7, newP h_2), (8, .bool t27), (9, newP h_18), (10, .bool false), (14, .int .u8 t14), (15, .int .i64 t87)]) (Fr.c (Fr.c (Fr.c (Fr.c (Fr.c (Fr.c (Fr.c (Fr.c (Fr.c Fr.n))))))))) ?_
           refine n105 ?_
           replace z := lS z; obtain ⟨k108, e108, z⟩ := z
           have J108 : ∀  (h_109 : AHeap), k108 h_109 = some (rR, hR) → Go w0 m0 (Func.ntmps Try.f86) (K75 .normal) [(0, strA t0), (1, .int .i64 t1_103), (4, newP h), (7, newP h_2), (8, .bool t27), (9, newP h_18), (10, .bool false)] [] h_109 := by
            intro  h_109 z
            rw [e108] at z
            refine n75 ?_
            refine n64 ?_
            exact Go.weaken (Fr.c (Fr.c (Fr.c (Fr.c (Fr.c (Fr.c (Fr.c Fr.n))))))) (ih64 _ _ _ z)
           refine W.blockK (by kernel_rfl) (fun K107 n107 s107 o107 q107 p107 => ?_)
           refine W.loopK (by kernel_rfl) (fun I110 K110 b110 n110 e110 q110 p110 => ?_)
           have L110 : ∀ (m : Nat) (t15 : Int) (h_111 : AHeap), ref09_class_L2 h_18 t14 k108 m t15 h_111 = some (rR, hR) → Go w0 m0 (Func.ntmps Try.f86) I110 [(0, strA t0), (1, .int .i64 t1_103), (4, newP h), (7, newP h_2), (8, .bool t27), (9, newP h_18), (10, .bool false), (14, .int .u8 t14), (15, .int .i64 t15)] [] h_111 := by
            intro m
            induction m with
            | zero => intro t15 h_111 z; cases z
            | succ m ih110 =>
             intro t15 h_111 z
             rw [ref09_class_L2_s] at z; unfold ref09_class_L2b at z
             refine b110 ?_
             refine W.s (fun _ n112 e112 _ _ => ?_)
             refine W.s (fun _ n113 _ _ _ => ?_)
             refine W.r ?_
             refine WL.a (some 88) (.int .i64 t15) h_111 ?_
             refine WL.a (some 89) (.int .u8 t14) h_111 ?_
             replace z := lS z; obtain ⟨t90, e114, z⟩ := z
             refine WL.val (d := (some 90)) (v := .int .i64 t90) (h' := h_111) (by kernel_rfl) (by kernel_rfl) (val_of (AV.int .i64) e114 (by kernel_rfl)) ?_
             replace z := lS z; obtain ⟨t91, e115, z⟩ := z
             refine WL.val (d := (some 91)) (v := .bool t91) (h' := h_111) (by kernel_rfl) (by kernel_rfl) (val_of AV.bool e115 (by kernel_rfl)) ?_
             refine WL.n ?_
             refine Go.weaken (l' := [(0, strA t0), (1, .int .i64 t1_103), (4, newP h), (7, newP h_2), (8, .bool t27), (9, newP h_18), (10, .bool false), (14, .int .u8 t14), (15, .int .i64 t15), (91, .bool t91)]) (Fr.c (Fr.c (Fr.c (Fr.c (Fr.c (Fr.c (Fr.c (Fr.c (Fr.c (Fr.c Fr.n)))))))))) ?_
             refine n113 ?_
             cases t91 with
             | true =>
              replace z := ifB_t z
              refine W.t ?_
              refine W.skip (by kernel_rfl) ?_
              refine n112 ?_
              refine W.s (fun _ n116 _ _ _ => ?_)
              refine W.blockK (by kernel_rfl) (fun K117 n117 s117 o117 q117 p117 => ?_)
              refine W.r ?_
              refine WL.a (some 94) (.int .i64 t15) h_111 ?_
              replace z := oS z; obtain ⟨t95, e118, z⟩ := z
              refine WL.b (some 95) t95 h_111 (index_arr (P := Pg) (h := h_111) (t := 109) (e' := 4) (k := .i64) (by kernel_rfl) (by kernel_rfl) (by kernel_rfl) e118) ?_
              replace z := oS z; obtain ⟨h_119, e120, z⟩ := z
              refine WL.e h_119 (store_row (P := Pg) (h := h_111) (t := 4) (v := (.bool true)) (by kernel_rfl) (by kernel_rfl) e120) ?_
              refine WL.n ?_
              refine Go.weaken (l' := [(0, strA t0), (1, .int .i64 t1_103), (4, newP h), (7, newP h_2), (8, .bool t27), (9, newP h_18), (10, .bool false), (14, .int .u8 t14), (15, .int .i64 t15)]) (Fr.c (Fr.c (Fr.c (Fr.c (Fr.c (Fr.c (Fr.c (Fr.c (Fr.c Fr.n))))))))) ?_
              refine n117 ?_
              refine n116 ?_
              refine W.r ?_
              refine WL.a (some 92) (.int .i64 t15) h_119 ?_
              replace z := lS z; obtain ⟨t93, e121, z⟩ := z
              refine WL.val (d := (some 93)) (v := .int .i64 t93) (h' := h_119) (by kernel_rfl) (by kernel_rfl) (val_of (AV.int .i64) e121 (by kernel_rfl)) ?_
              refine WL.a (some 15) (.int .i64 t93) h_119 ?_
              refine WL.n ?_
              refine Go.weaken (l' := [(0, strA t0), (1, .int .i64 t1_103), (4, newP h), (7, newP h_2), (8, .bool t27), (9, newP h_18), (10, .bool false), (14, .int .u8 t14), (15, .int .i64 t93)]) (Fr.c (Fr.c (Fr.c (Fr.c (Fr.c (Fr.c (Fr.c (Fr.c (Fr.c Fr.n))))))))) ?_
              refine n110 ?_
              exact Go.weaken (Fr.c (Fr.c (Fr.c (Fr.c (Fr.c (Fr.c (Fr.c (Fr.c (Fr.c Fr.n))))))))) (ih110 _ _ z)
             | false =>
              replace z := ifB_f z
              refine W.f ?_
              refine W.exit (by kernel_rfl) ?_
              refine e112 ?_
              refine e110 ?_
              refine s107 (by kernel_rfl) ?_
              exact Go.weaken (Fr.c (Fr.c (Fr.c (Fr.c (Fr.c (Fr.c (Fr.c Fr.n))))))) (J108 _ z)
           exact Go.weaken (Fr.c (Fr.c (Fr.c (Fr.c (Fr.c (Fr.c (Fr.c (Fr.c (Fr.c Fr.n))))))))) (L110 _ _ _ z)
          cases t66 with
          | true =>
           replace z := ifB_t z
           refine W.t ?_
           refine W.s (fun _ n122 _ _ _ => ?_)
           refine W.r ?_
           refine WL.a (some 68) (strA t0) h_99 ?_
           refine WL.a (some 69) (.int .i64 t49) h_99 ?_
           replace z := lS z; obtain ⟨t70, e123, z⟩ := z
           refine WL.val (d := (some 70)) (v := .int .i64 t70) (h' := h_99) (by kernel_rfl) (by kernel_rfl) (val_of (AV.int .i64) e123 (by kernel_rfl)) ?_
           replace z := callN_some z; obtain ⟨r71, h_124, e125, z⟩ := z
           refine WL.c (hc.ok w0) (some 71) e125 ?_
           refine WL.a (some 67) r71 h_124 ?_
           replace z := oS z; obtain ⟨v72, e126, z⟩ := z
           replace z := oS z; obtain ⟨t72, c127, z⟩ := z
           have c127 := avInt_some c127
           subst c127
           refine WL.b (some 72) (.int .u8 t72) h_124 (extract_tup (h := h_124) e126) ?_
           replace z := oS z; obtain ⟨v73, e128, z⟩ := z
           replace z := oS z; obtain ⟨t73, c129, z⟩ := z
           have c129 := avInt_some c129
           subst c129
           refine WL.b (some 73) (.int .i64 t73) h_124 (extract_tup (h := h_124) e128) ?_
           replace z := oS z; obtain ⟨v74, e130, z⟩ := z
           replace z := oS z; obtain ⟨t74, c131, z⟩ := z
           have c131 := avBool_some c131
           subst c131
           refine WL.b (some 74) (.bool t74) h_124 (extract_tup (h := h_124) e130) ?_
           refine WL.a (some 14) (.int .u8 t72) h_124 ?_
           refine WL.a (some 12) (.int .i64 t73) h_124 ?_
           refine WL.a (some 13) (.bool t74) h_124 ?_
           refine WL.n ?_
           refine Go.weaken (l' := [(0, strA t0), (4, newP h), (7, newP h_2), (8, .bool t27), (9, newP h_18), (10, .bool false), (11, .int .u8 t48), (12, .int .i64 t73), (13, .bool t74), (14, .int .u8 t72)]) (Fr.c (Fr.c (Fr.c (Fr.c (Fr.c (Fr.c (Fr.c (Fr.c (Fr.c (Fr.c Fr.n)))))))))) ?_
           refine n122 ?_
           refine W.s (fun _ n132 _ q132 _ => ?_)
           refine W.s (fun _ n133 _ _ _ => ?_)
           refine W.r ?_
           refine WL.a (some 75) (.bool t74) h_124 ?_
           replace z := lS z; obtain ⟨t76, e134, z⟩ := z
           refine WL.val (d := (some 76)) (v := .bool t76) (h' := h_124) (by kernel_rfl) (by kernel_rfl) (val_of AV.bool e134 (by kernel_rfl)) ?_
           refine WL.n ?_
           refine Go.weaken (l' := [(0, strA t0), (4, newP h), (7, newP h_2), (8, .bool t27), (9, newP h_18), (10, .bool false), (11, .int .u8 t48), (12, .int .i64 t73), (14, .int .u8 t72), (76, .bool t76)]) (Fr.c (Fr.c (Fr.c (Fr.c (Fr.c (Fr.c (Fr.c (Fr.c (Fr.c (Fr.c Fr.n)))))))))) ?_
           refine n133 ?_
           cases t76 with
           | true =>
            replace z := ifB_t z
            refine W.t ?_
            refine W.s (fun _ n135 _ _ _ => ?_)
            refine W.r ?_
            refine WL.a (some 77) (.agg ([.int .i64 0, .int .u64 0, .int .u64 0, .int .u64 0, .int .u64 0, .nsl] : List AV)) h_124 ?_
            refine WL.a (some 78) (.int .i64 t73) h_124 ?_
            replace z := oS z; obtain ⟨h_136, e137, z⟩ := z
            refine WL.e h_136 (store_row (P := Pg) (h := h_124) (t := 41) (v := (.agg ([.int .i64 0, .int .u64 0, .int .u64 0, .int .u64 0, .int .u64 0, .nsl] : List AV))) (by kernel_rfl) (by kernel_rfl) e137) ?_
            refine WL.a (some 5) (.int .i64 t73) h_136 ?_
            refine WL.a (some 6) (.bool false) h_136 ?_
            refine WL.n ?_
            refine Go.weaken (l' := [(4, newP h), (5, .int .i64 t73), (6, .bool false)]) (Fr.c (Fr.c (Fr.c Fr.n))) ?_
            refine n135 ?_
            refine W.ret (by kernel_rfl) ?_
            refine q132 ?_
            refine q96 ?_
            refine q75 ?_
            refine q64 ?_
            refine q24 ?_
            refine q23 ?_
            replace z := oS z; obtain ⟨w4_139, e138, z⟩ := z
            obtain ⟨z, hF2⟩ := ret_inj z; subst z; subst hF2
            exact leave_of (rs := [.cell 4 41, .tmp 5, .tmp 6]) (vs := [.agg w4_139, .int .i64 t73, .bool false]) (by kernel_rfl) (res_cell (by kernel_rfl) (load_row (P := Pg) (h := h_136) (t := 41) (by kernel_rfl) (by kernel_rfl) e138) (res_tmp (by kernel_rfl) (res_tmp (by kernel_rfl) res_nil))) (by kernel_rfl)
           | false =>
            replace z := ifB_f z
            refine W.f ?_
            refine W.skip (by kernel_rfl) ?_
            refine n132 ?_
            refine W.s (fun _ n140 _ _ _ => ?_)
            refine W.r ?_
            refine WL.a (some 79) (.int .i64 t73) h_124 ?_
            refine WL.a (some 1) (.int .i64 t73) h_124 ?_
            refine WL.n ?_
            refine Go.weaken (l' := [(0, strA t0), (1, .int .i64 t73), (4, newP h), (7, newP h_2), (8, .bool t27), (9, newP h_18), (10, .bool false), (11, .int .u8 t48), (14, .int .u8 t72)]) (Fr.c (Fr.c (Fr.c (Fr.c (Fr.c (Fr.c (Fr.c (Fr.c (Fr.c Fr.n))))))))) ?_
            refine n140 ?_
            refine W.s (fun _ n141 _ _ _ => ?_)
            refine W.r ?_
            refine WL.a (some 80) (.int .u8 t72) h_124 ?_
            refine WL.a (some 81) (.int .u8 t48) h_124 ?_
            replace z := lS z; obtain ⟨t82, e142, z⟩ := z
            refine WL.val (d := (some 82)) (v := .bool t82) (h' := h_124) (by kernel_rfl) (by kernel_rfl) (val_of AV.bool e142 (by kernel_rfl)) ?_
            refine WL.n ?_
            refine Go.weaken (l' := [(0, strA t0), (1, .int .i64 t73), (4, newP h), (7, newP h_2), (8, .bool t27), (9, newP h_18), (10, .bool false), (11, .int .u8 t48), (14, .int .u8 t72), (82, .bool t82)]) (Fr.c (Fr.c (Fr.c (Fr.c (Fr.c (Fr.c (Fr.c (Fr.c (Fr.c (Fr.c Fr.n)))))))))) ?_
            refine n141 ?_
            cases t82 with
            | true =>
             replace z := ifB_t z
             refine W.t ?_
             refine W.s (fun _ n143 _ _ _ => ?_)
             refine W.r ?_
             refine WL.a (some 83) (.agg ([.int .i64 0, .int .u64 0, .int .u64 0, .int .u64 0, .int .u64 0, .nsl] : List AV)) h_124 ?_
             refine WL.a (some 84) (.int .i64 t73) h_124 ?_
             replace z := lS z; obtain ⟨t85, e144, z⟩ := z
             refine WL.val (d := (some 85)) (v := .int .i64 t85) (h' := h_124) (by kernel_rfl) (by kernel_rfl) (val_of (AV.int .i64) e144 (by kernel_rfl)) ?_
             replace z := oS z; obtain ⟨h_145, e146, z⟩ := z
             refine WL.e h_145 (store_row (P := Pg) (h := h_124) (t := 41) (v := (.agg ([.int .i64 0, .int .u64 0, .int .u64 0, .int .u64 0, .int .u64 0, .nsl] : List AV))) (by kernel_rfl) (by kernel_rfl) e146) ?_
             refine WL.a (some 5) (.int .i64 t85) h_145 ?_
             refine WL.a (some 6) (.bool false) h_145 ?_
             refine WL.n ?_
             refine Go.weaken (l' := [(4, newP h), (5, .int .i64 t85), (6, .bool false)]) (Fr.c (Fr.c (Fr.c Fr.n))) ?_
             refine n143 ?_
             refine W.ret (by kernel_rfl) ?_
             refine q96 ?_
             refine q75 ?_
             refine q64 ?_
             refine q24 ?_
             refine q23 ?_
             replace z := oS z; obtain ⟨w4_148, e147, z⟩ := z
             obtain ⟨z, hF2⟩ := ret_inj z; subst z; subst hF2
             exact leave_of (rs := [.cell 4 41, .tmp 5, .tmp 6]) (vs := [.agg w4_148, .int .i64 t85, .bool false]) (by kernel_rfl) (res_cell (by kernel_rfl) (load_row (P := Pg) (h := h_145) (t := 41) (by kernel_rfl) (by kernel_rfl) e147) (res_tmp (by kernel_rfl) (res_tmp (by kernel_rfl) res_nil))) (by kernel_rfl)
            | false =>
             replace z := ifB_f z
             refine W.f ?_
             refine W.skip (by kernel_rfl) ?_
             exact Go.weaken (Fr.c (Fr.c (Fr.c (Fr.c (Fr.c (Fr.c (Fr.c (Fr.c (Fr.c Fr.n))))))))) (J102 _ _ _ z)
          | false =>
           replace z := ifB_f z
           refine W.f ?_
           refine W.skip (by kernel_rfl) ?_
           exact Go.weaken (Fr.c (Fr.c (Fr.c (Fr.c (Fr.c (Fr.c (Fr.c (Fr.c (Fr.c Fr.n))))))))) (J102 _ _ _ z)
         cases t60 with
         | true =>
          replace z := ifB_t z
          refine WL.a (some 62) (strA t0) h_78 ?_
          refine WL.a (some 63) (.int .i64 t49) h_78 ?_
          replace z := oS z; obtain ⟨t64, e149, z⟩ := z
          refine WL.b (some 64) (.int .u8 t64) h_78 (index_str (P := Pg) (h := h_78) (t := 9) (k := .i64) (by kernel_rfl) e149) ?_
          replace z := lS z; obtain ⟨t65, e150, z⟩ := z
          refine WL.val (d := (some 65)) (v := .bool t65) (h' := h_78) (by kernel_rfl) (by kernel_rfl) (val_of AV.bool e150 (by kernel_rfl)) ?_
          refine WL.a (some 66) (.bool t65) h_78 ?_
          exact WL.weaken (Fr.c (Fr.c (Fr.c (Fr.c (Fr.c (Fr.c (Fr.c (Fr.c (Fr.c (Fr.c Fr.n)))))))))) (J101 _ _ z)
         | false =>
          replace z := ifB_f z
          refine WL.o (some 62) ?_
          refine WL.o (some 63) ?_
          refine WL.o (some 64) ?_
          refine WL.o (some 65) ?_
          refine WL.a (some 66) (.bool false) h_78 ?_
          exact WL.weaken (Fr.c (Fr.c (Fr.c (Fr.c (Fr.c (Fr.c (Fr.c (Fr.c (Fr.c (Fr.c Fr.n)))))))))) (J101 _ _ z)
       | false =>
        replace z := ifB_f z
        refine W.f ?_
        refine W.exit (by kernel_rfl) ?_
        refine e67 ?_
        refine e64 ?_
        refine s24 (by kernel_rfl) ?_
        exact Go.weaken (Fr.c (Fr.c (Fr.c (Fr.c (Fr.c Fr.n))))) (J25 _ _ z)
      cases t37 with
      | true =>
       replace z := ifB_t z
       refine WL.o (some 39) ?_
       refine WL.o (some 40) ?_
       refine WL.o (some 41) ?_
       refine WL.o (some 42) ?_
       refine WL.a (some 43) (.bool true) h_69 ?_
       exact WL.weaken (Fr.c (Fr.c (Fr.c (Fr.c (Fr.c (Fr.c (Fr.c Fr.n))))))) (J74 _ _ z)
      | false =>
       replace z := ifB_f z
       refine WL.a (some 39) (strA t0) h_69 ?_
       refine WL.a (some 40) (.int .i64 t1_65) h_69 ?_
       replace z := oS z; obtain ⟨t41, e151, z⟩ := z
       refine WL.b (some 41) (.int .u8 t41) h_69 (index_str (P := Pg) (h := h_69) (t := 9) (k := .i64) (by kernel_rfl) e151) ?_
       replace z := lS z; obtain ⟨t42, e152, z⟩ := z
       refine WL.val (d := (some 42)) (v := .bool t42) (h' := h_69) (by kernel_rfl) (by kernel_rfl) (val_of AV.bool e152 (by kernel_rfl)) ?_
       refine WL.a (some 43) (.bool t42) h_69 ?_
       exact WL.weaken (Fr.c (Fr.c (Fr.c (Fr.c (Fr.c (Fr.c (Fr.c Fr.n))))))) (J74 _ _ z)
     cases t10 with
     | true =>
      replace z := ifB_t z
      refine WL.o (some 33) ?_
      refine WL.o (some 34) ?_
      refine WL.o (some 35) ?_
      refine WL.o (some 36) ?_
      refine WL.a (some 37) (.bool true) h_66 ?_
      exact WL.weaken (Fr.c (Fr.c (Fr.c (Fr.c (Fr.c (Fr.c (Fr.c Fr.n))))))) (J71 _ _ z)
     | false =>
      replace z := ifB_f z
      refine WL.a (some 33) (.int .i64 t1_65) h_66 ?_
      refine WL.a (some 34) (strA t0) h_66 ?_
      refine WL.a (some 35) (.int .i64 (lenS t0)) h_66 ?_
      replace z := lS z; obtain ⟨t36, e153, z⟩ := z
      refine WL.val (d := (some 36)) (v := .bool t36) (h' := h_66) (by kernel_rfl) (by kernel_rfl) (val_of AV.bool e153 (by kernel_rfl)) ?_
      refine WL.a (some 37) (.bool t36) h_66 ?_
      exact WL.weaken (Fr.c (Fr.c (Fr.c (Fr.c (Fr.c (Fr.c (Fr.c Fr.n))))))) (J71 _ _ z)
   exact Go.weaken (Fr.c (Fr.c (Fr.c (Fr.c (Fr.c (Fr.c (Fr.c Fr.n))))))) (L64 _ _ _ _ z)
  cases t27 with
  | true =>
   replace z := ifB_t z
   refine W.t ?_
   refine W.r ?_
   refine WL.a (some 29) (.int .i64 t1) h_11 ?_
   replace z := lS z; obtain ⟨t30, e154, z⟩ := z
   refine WL.val (d := (some 30)) (v := .int .i64 t30) (h' := h_11) (by kernel_rfl) (by kernel_rfl) (val_of (AV.int .i64) e154 (by kernel_rfl)) ?_
   refine WL.a (some 1) (.int .i64 t30) h_11 ?_
   refine WL.n ?_
   refine Go.weaken (l' := [(0, strA t0), (1, .int .i64 t30), (4, newP h), (7, newP h_2), (8, .bool true)]) (Fr.c (Fr.c (Fr.c (Fr.c (Fr.c Fr.n))))) ?_
   exact Go.weaken (Fr.c (Fr.c (Fr.c (Fr.c (Fr.c Fr.n))))) (J16 _ _ z)
  | false =>
   replace z := ifB_f z
   refine W.f ?_
   refine W.skip (by kernel_rfl) ?_
   exact Go.weaken (Fr.c (Fr.c (Fr.c (Fr.c (Fr.c Fr.n))))) (J16 _ _ z)
 cases t21 with
 | true =>
  replace z := ifB_t z
  refine WL.a (some 23) (strA t0) h_7 ?_
  refine WL.a (some 24) (.int .i64 t1) h_7 ?_
  replace z := oS z; obtain ⟨t25, e155, z⟩ := z
  refine WL.b (some 25) (.int .u8 t25) h_7 (index_str (P := Pg) (h := h_7) (t := 9) (k := .i64) (by kernel_rfl) e155) ?_
  replace z := lS z; obtain ⟨t26, e156, z⟩ := z
  refine WL.val (d := (some 26)) (v := .bool t26) (h' := h_7) (by kernel_rfl) (by kernel_rfl) (val_of AV.bool e156 (by kernel_rfl)) ?_
  refine WL.a (some 27) (.bool t26) h_7 ?_
  exact WL.weaken (Fr.c (Fr.c (Fr.c (Fr.c (Fr.c Fr.n))))) (J13 _ _ z)
 | false =>
  replace z := ifB_f z
  refine WL.o (some 23) ?_
  refine WL.o (some 24) ?_
  refine WL.o (some 25) ?_
  refine WL.o (some 26) ?_
  refine WL.a (some 27) (.bool false) h_7 ?_
  exact WL.weaken (Fr.c (Fr.c (Fr.c (Fr.c (Fr.c Fr.n))))) (J13 _ _ z)
noncomputable def ref09_class_fn (call : CallF) (n : Nat) : FnT := fun args h => match args with
 | [x0, x1] => obind (avStr x0) fun t0 => obind (avInt .i64 x1) fun t1 => ref09_class call n t0 t1 h
 | _ => none
set_option maxRecDepth 100000 in
theorem ref09_class_fn_eq (call : CallF) (n : Nat) (t0 : Bytes) (t1 : Int) (h : AHeap) : ref09_class_fn call n [strA t0, .int .i64 t1] h = ref09_class call n t0 t1 h :=
 (Eq.trans (obind_eq (fun t0 => obind (avInt .i64 (.int .i64 t1)) fun t1 => ref09_class call n t0 t1 h) (avStr_str t0)) (Eq.trans (obind_eq (fun t1 => ref09_class call n t0 t1 h) (avInt_int .i64 t1)) rfl))
theorem ref09_class_holds {call : CallF} (hc : SaysAll Pg call) (n : Nat) : Holds Pg 86 (ref09_class_fn call n) := by
 intro args h r h2 e
 unfold ref09_class_fn at e
 split at e
 ·replace e := oS e; obtain ⟨t0, c0, e⟩ := e; have c0 := avStr_some c0; subst c0
  replace e := oS e; obtain ⟨t1, c1, e⟩ := e; have c1 := avInt_some c1; subst c1
  exact ref09_class_ok hc e
 ·cases e
noncomputable def ref09_member (_ : CallF) (_ : Nat) (t0 : Bytes) (t1 : Int) (h : AHeap) : R :=
 lett ((t1 : Int) == (lenS t0)) fun (t10 : Bool) =>
 lett (fun (t16 : Bool) (h_5 : AHeap) =>
  lett (fun (t22 : Bool) (h_8 : AHeap) =>
   lett (fun (t28 : Bool) (h_11 : AHeap) =>
    lett (fun (t34 : Bool) (h_14 : AHeap) =>
     ifB t34
     (
      some (.ret (.tup [.int .u8 0, .int .i64 t1, .bool false]), h_14))
     (
      obind (idxS t0 t1) fun t38 =>
      lett ((t38 : Int) != 92) fun (t39 : Bool) =>
      ifB t39
      (
       obind (idxS t0 t1) fun t42 =>
       lett (IntKind.i64.wrap (t1 + 1)) fun (t44 : Int) =>
       some (.ret (.tup [.int .u8 t42, .int .i64 t44, .bool true]), h_14))
      (
       lett (IntKind.i64.wrap (t1 + 1)) fun (t46 : Int) =>
       lett ((t46 : Int) == (lenS t0)) fun (t49 : Bool) =>
       ifB t49
       (
        lett (IntKind.i64.wrap (t1 + 1)) fun (t51 : Int) =>
        some (.ret (.tup [.int .u8 0, .int .i64 t51, .bool false]), h_14))
       (
        lett (IntKind.i64.wrap (t1 + 1)) fun (t54 : Int) =>
        obind (idxS t0 t54) fun t55 =>
        lett (IntKind.i64.wrap (t1 + 2)) fun (t57 : Int) =>
        some (.ret (.tup [.int .u8 t55, .int .i64 t57, .bool true]), h_14))))) fun j34 =>
    ifB t28
    (
     j34 true h_11)
    (
     obind (idxS t0 t1) fun t32 =>
     lett ((t32 : Int) == 45) fun (t33 : Bool) =>
     j34 t33 h_11)) fun j28 =>
   ifB t22
   (
    j28 true h_8)
   (
    obind (idxS t0 t1) fun t26 =>
    lett ((t26 : Int) == 94) fun (t27 : Bool) =>
    j28 t27 h_8)) fun j22 =>
  ifB t16
  (
   j22 true h_5)
  (
   obind (idxS t0 t1) fun t20 =>
   lett ((t20 : Int) == 93) fun (t21 : Bool) =>
   j22 t21 h_5)) fun j16 =>
 ifB t10
 (
  j16 true h)
 (
  obind (idxS t0 t1) fun t14 =>
  lett ((t14 : Int) == 91) fun (t15 : Bool) =>
  j16 t15 h)
theorem ref09_member_ok {call : CallF} (_ : SaysAll Pg call) {n : Nat} {t0 : Bytes} {t1 : Int} {h : AHeap} {rR : ARes} {hR : AHeap} (z : ref09_member call n t0 t1 h = some (rR, hR)) : Says Pg 89 [strA t0, .int .i64 t1] h rR hR := by
 unfold ref09_member at z
 refine says_of (fn := Try.f89) Try.func89 (c := codeOf Try.f89) (by kernel_rfl) (by kernel_rfl) (fun w0 m0 => ?_)
 refine W.weaken (l' := [(0, strA t0), (1, .int .i64 t1)]) (Fr.c (Fr.c Fr.n)) ?_
 refine W.s (fun _ n1 _ _ p1 => ?_)
 refine W.r ?_
 refine WL.a (some 4) (.int .u8 0) h ?_
 refine WL.a (some 5) (.int .i64 0) h ?_
 refine WL.a (some 6) (.bool false) h ?_
 refine WL.n ?_
 refine Go.weaken (l' := [(0, strA t0), (1, .int .i64 t1)]) (Fr.c (Fr.c Fr.n)) ?_
 refine n1 ?_
 refine W.s (fun _ n2 _ q2 p2 => ?_)
 refine W.s (fun K3 n3 _ _ _ => ?_)
 refine W.r ?_
 refine WL.a (some 7) (.int .i64 t1) h ?_
 refine WL.a (some 8) (strA t0) h ?_
 refine WL.a (some 9) (.int .i64 (lenS t0)) h ?_
 replace z := lS z; obtain ⟨t10, e4, z⟩ := z
 refine WL.val (d := (some 10)) (v := .bool t10) (h' := h) (by kernel_rfl) (by kernel_rfl) (val_of AV.bool e4 (by kernel_rfl)) ?_
 refine WL.a (some 11) (.bool t10) h ?_
 replace z := lS z; obtain ⟨j16, e6, z⟩ := z
 have J7 : ∀ (t16 : Bool) (h_5 : AHeap), j16 t16 h_5 = some (rR, hR) → WL Pg w0 m0 (Func.ntmps Try.f89) (Code.ops (Code.p1 (Code.p1 (Code.p2 (codeOf Try.f89))))) 10 K3 [(0, strA t0), (1, .int .i64 t1), (16, .bool t16)] [] h_5 := by
  intro t16 h_5 z
  rw [e6] at z
  refine WL.a (some 17) (.bool t16) h_5 ?_
  replace z := lS z; obtain ⟨j22, e9, z⟩ := z
  have J10 : ∀ (t22 : Bool) (h_8 : AHeap), j22 t22 h_8 = some (rR, hR) → WL Pg w0 m0 (Func.ntmps Try.f89) (Code.ops (Code.p1 (Code.p1 (Code.p2 (codeOf Try.f89))))) 16 K3 [(0, strA t0), (1, .int .i64 t1), (22, .bool t22)] [] h_8 := by
   intro t22 h_8 z
   rw [e9] at z
   refine WL.a (some 23) (.bool t22) h_8 ?_
   replace z := lS z; obtain ⟨j28, e12, z⟩ := z
   have J13 : ∀ (t28 : Bool) (h_11 : AHeap), j28 t28 h_11 = some (rR, hR) → WL Pg w0 m0 (Func.ntmps Try.f89) (Code.ops (Code.p1 (Code.p1 (Code.p2 (codeOf Try.f89))))) 22 K3 [(0, strA t0), (1, .int .i64 t1), (28, .bool t28)] [] h_11 := by
    intro t28 h_11 z
    rw [e12] at z
    refine WL.a (some 29) (.bool t28) h_11 ?_
    replace z := lS z; obtain ⟨j34, e15, z⟩ := z
    have J16 : ∀ (t34 : Bool) (h_14 : AHeap), j34 t34 h_14 = some (rR, hR) → WL Pg w0 m0 (Func.ntmps Try.f89) (Code.ops (Code.p1 (Code.p1 (Code.p2 (codeOf Try.f89))))) 28 K3 [(0, strA t0), (1, .int .i64 t1), (34, .bool t34)] [] h_14 := by
     intro t34 h_14 z
     rw [e15] at z
     refine WL.n ?_
     refine Go.weaken (l' := [(0, strA t0), (1, .int .i64 t1), (34, .bool t34)]) (Fr.c (Fr.c (Fr.c Fr.n))) ?_
     refine n3 ?_
     cases t34 with
     | true =>
      replace z := ifB_t z
      refine W.t ?_
      refine W.s (fun _ n17 _ _ _ => ?_)
      refine W.r ?_
      refine WL.a (some 35) (.int .i64 t1) h_14 ?_
      refine WL.a (some 4) (.int .u8 0) h_14 ?_
      refine WL.a (some 5) (.int .i64 t1) h_14 ?_
      refine WL.a (some 6) (.bool false) h_14 ?_
      refine WL.n ?_
      refine Go.weaken (l' := [(4, .int .u8 0), (5, .int .i64 t1), (6, .bool false)]) (Fr.c (Fr.c (Fr.c Fr.n))) ?_
      refine n17 ?_
      refine W.ret (by kernel_rfl) ?_
      refine q2 ?_
      obtain ⟨z, hF2⟩ := ret_inj z; subst z; subst hF2
      exact leave_of (rs := [.tmp 4, .tmp 5, .tmp 6]) (vs := [.int .u8 0, .int .i64 t1, .bool false]) (by kernel_rfl) (res_tmp (by kernel_rfl) (res_tmp (by kernel_rfl) (res_tmp (by kernel_rfl) res_nil))) (by kernel_rfl)
     | false =>
      replace z := ifB_f z
      refine W.f ?_
      refine W.skip (by kernel_rfl) ?_
      refine n2 ?_
      refine W.s (fun _ n18 _ q18 _ => ?_)
      refine W.s (fun _ n19 _ _ _ => ?_)
      refine W.r ?_
      refine WL.a (some 36) (strA t0) h_14 ?_
      refine WL.a (some 37) (.int .i64 t1) h_14 ?_
      replace z := oS z; obtain ⟨t38, e20, z⟩ := z
      refine WL.b (some 38) (.int .u8 t38) h_14 (index_str (P := Pg) (h := h_14) (t := 9) (k := .i64) (by kernel_rfl) e20) ?_
      replace z := lS z; obtain ⟨t39, e21, z⟩ := z
      refine WL.val (d := (some 39)) (v := .bool t39) (h' := h_14) (by kernel_rfl) (by kernel_rfl) (val_of AV.bool e21 (by kernel_rfl)) ?_
      refine WL.n ?_
      refine Go.weaken (l' := [(0, strA t0), (1, .int .i64 t1), (39, .bool t39)]) (Fr.c (Fr.c (Fr.c Fr.n))) ?_
      refine n19 ?_
      cases t39 with
      | true =>
       replace z := ifB_t z
       refine W.t ?_
       refine W.s (fun _ n22 _ _ _ => ?_)
       refine W.r ?_
       refine WL.a (some 40) (strA t0) h_14 ?_
       refine WL.a (some 41) (.int .i64 t1) h_14 ?_
       replace z := oS z; obtain ⟨t42, e23, z⟩ := z
       refine WL.b (some 42) (.int .u8 t42) h_14 (index_str (P := Pg) (h := h_14) (t := 9) (k := .i64) (by kernel_rfl) e23) ?_
       refine WL.a (some 43) (.int .i64 t1) h_14 ?_
       replace z := lS z; obtain ⟨t44, e24, z⟩ := z
       refine WL.val (d := (some 44)) (v := .int .i64 t44) (h' := h_14) (by kernel_rfl) (by kernel_rfl) (val_of (AV.int .i64) e24 (by kernel_rfl)) ?_
       refine WL.a (some 4) (.int .u8 t42) h_14 ?_
       refine WL.a (some 5) (.int .i64 t44) h_14 ?_
       refine WL.a (some 6) (.bool true) h_14 ?_
       refine WL.n ?_
       refine Go.weaken (l' := [(4, .int .u8 t42), (5, .int .i64 t44), (6, .bool true)]) (Fr.c (Fr.c (Fr.c Fr.n))) ?_
       refine n22 ?_
       refine W.ret (by kernel_rfl) ?_
       refine q18 ?_
       obtain ⟨z, hF2⟩ := ret_inj z; subst z; subst hF2
       exact leave_of (rs := [.tmp 4, .tmp 5, .tmp 6]) (vs := [.int .u8 t42, .int .i64 t44, .bool true]) (by kernel_rfl) (res_tmp (by kernel_rfl) (res_tmp (by kernel_rfl) (res_tmp (by kernel_rfl) res_nil))) (by kernel_rfl)
      | false =>
       replace z := ifB_f z
       refine W.f ?_
       refine W.skip (by kernel_rfl) ?_
       refine n18 ?_
       refine W.s (fun _ n25 _ q25 _ => ?_)
       refine W.s (fun _ n26 _ _ _ => ?_)
       refine W.r ?_
       refine WL.a (some 45) (.int .i64 t1) h_14 ?_
       replace z := lS z; obtain ⟨t46, e27, z⟩ := z
       refine WL.val (d := (some 46)) (v := .int .i64 t46) (h' := h_14) (by kernel_rfl) (by kernel_rfl) (val_of (AV.int .i64) e27 (by kernel_rfl)) ?_
       refine WL.a (some 47) (strA t0) h_14 ?_
       refine WL.a (some 48) (.int .i64 (lenS t0)) h_14 ?_
       replace z := lS z; obtain ⟨t49, e28, z⟩ := z
       refine WL.val (d := (some 49)) (v := .bool t49) (h' := h_14) (by kernel_rfl) (by kernel_rfl) (val_of AV.bool e28 (by kernel_rfl)) ?_
       refine WL.n ?_
       refine Go.weaken (l' := [(0, strA t0), (1, .int .i64 t1), (49, .bool t49)]) (Fr.c (Fr.c (Fr.c Fr.n))) ?_
       refine n26 ?_
       cases t49 with
       | true =>
        replace z := ifB_t z
        refine W.t ?_
        refine W.s (fun _ n29 _ _ _ => ?_)
        refine W.r ?_
        refine WL.a (some 50) (.int .i64 t1) h_14 ?_
        replace z := lS z; obtain ⟨t51, e30, z⟩ := z
        refine WL.val (d := (some 51)) (v := .int .i64 t51) (h' := h_14) (by kernel_rfl) (by kernel_rfl) (val_of (AV.int .i64) e30 (by kernel_rfl)) ?_
        refine WL.a (some 4) (.int .u8 0) h_14 ?_
        refine WL.a (some 5) (.int .i64 t51) h_14 ?_
        refine WL.a (some 6) (.bool false) h_14 ?_
        refine WL.n ?_
        refine Go.weaken (l' := [(4, .int .u8 0), (5, .int .i64 t51), (6, .bool false)]) (Fr.c (Fr.c (Fr.c Fr.n))) ?_
        refine n29 ?_
        refine W.ret (by kernel_rfl) ?_
        refine q25 ?_
        obtain ⟨z, hF2⟩ := ret_inj z; subst z; subst hF2
        exact leave_of (rs := [.tmp 4, .tmp 5, .tmp 6]) (vs := [.int .u8 0, .int .i64 t51, .bool false]) (by kernel_rfl) (res_tmp (by kernel_rfl) (res_tmp (by kernel_rfl) (res_tmp (by kernel_rfl) res_nil))) (by kernel_rfl)
       | false =>
        replace z := ifB_f z
        refine W.f ?_
        refine W.skip (by kernel_rfl) ?_
        refine n25 ?_
        refine W.s (fun _ n31 _ _ _ => ?_)
        refine W.r ?_
        refine WL.a (some 52) (strA t0) h_14 ?_
        refine WL.a (some 53) (.int .i64 t1) h_14 ?_
        replace z := lS z; obtain ⟨t54, e32, z⟩ := z
        refine WL.val (d := (some 54)) (v := .int .i64 t54) (h' := h_14) (by kernel_rfl) (by kernel_rfl) (val_of (AV.int .i64) e32 (by kernel_rfl)) ?_
        replace z := oS z; obtain ⟨t55, e33, z⟩ := z
        refine WL.b (some 55) (.int .u8 t55) h_14 (index_str (P := Pg) (h := h_14) (t := 9) (k := .i64) (by kernel_rfl) e33) ?_
        refine WL.a (some 56) (.int .i64 t1) h_14 ?_
        replace z := lS z; obtain ⟨t57, e34, z⟩ := z
        refine WL.val (d := (some 57)) (v := .int .i64 t57) (h' := h_14) (by kernel_rfl) (by kernel_rfl) (val_of (AV.int .i64) e34 (by kernel_rfl)) ?_
        refine WL.a (some 4) (.int .u8 t55) h_14 ?_
        refine WL.a (some 5) (.int .i64 t57) h_14 ?_
        refine WL.a (some 6) (.bool true) h_14 ?_
        refine WL.n ?_
        refine Go.weaken (l' := [(4, .int .u8 t55), (5, .int .i64 t57), (6, .bool true)]) (Fr.c (Fr.c (Fr.c Fr.n))) ?_
        refine n31 ?_
        refine W.ret (by kernel_rfl) ?_
        obtain ⟨z, hF2⟩ := ret_inj z; subst z; subst hF2
        exact leave_of (rs := [.tmp 4, .tmp 5, .tmp 6]) (vs := [.int .u8 t55, .int .i64 t57, .bool true]) (by kernel_rfl) (res_tmp (by kernel_rfl) (res_tmp (by kernel_rfl) (res_tmp (by kernel_rfl) res_nil))) (by kernel_rfl)
    cases t28 with
    | true =>
     replace z := ifB_t z
     refine WL.o (some 30) ?_
     refine WL.o (some 31) ?_
     refine WL.o (some 32) ?_
     refine WL.o (some 33) ?_
     refine WL.a (some 34) (.bool true) h_11 ?_
     exact WL.weaken (Fr.c (Fr.c (Fr.c Fr.n))) (J16 _ _ z)
    | false =>
     replace z := ifB_f z
     refine WL.a (some 30) (strA t0) h_11 ?_
     refine WL.a (some 31) (.int .i64 t1) h_11 ?_
     replace z := oS z; obtain ⟨t32, e35, z⟩ := z
     refine WL.b (some 32) (.int .u8 t32) h_11 (index_str (P := Pg) (h := h_11) (t := 9) (k := .i64) (by kernel_rfl) e35) ?_
     replace z := lS z; obtain ⟨t33, e36, z⟩ := z
     refine WL.val (d := (some 33)) (v := .bool t33) (h' := h_11) (by kernel_rfl) (by kernel_rfl) (val_of AV.bool e36 (by kernel_rfl)) ?_
     refine WL.a (some 34) (.bool t33) h_11 ?_
     exact WL.weaken (Fr.c (Fr.c (Fr.c Fr.n))) (J16 _ _ z)
   cases t22 with
   | true =>
    replace z := ifB_t z
    refine WL.o (some 24) ?_
    refine WL.o (some 25) ?_
    refine WL.o (some 26) ?_
    refine WL.o (some 27) ?_
    refine WL.a (some 28) (.bool true) h_8 ?_
    exact WL.weaken (Fr.c (Fr.c (Fr.c Fr.n))) (J13 _ _ z)
   | false =>
    replace z := ifB_f z
    refine WL.a (some 24) (strA t0) h_8 ?_
    refine WL.a (some 25) (.int .i64 t1) h_8 ?_
    replace z := oS z; obtain ⟨t26, e37, z⟩ := z
    refine WL.b (some 26) (.int .u8 t26) h_8 (index_str (P := Pg) (h := h_8) (t := 9) (k := .i64) (by kernel_rfl) e37) ?_
    replace z := lS z; obtain ⟨t27, e38, z⟩ := z
    refine WL.val (d := (some 27)) (v := .bool t27) (h' := h_8) (by kernel_rfl) (by kernel_rfl) (val_of AV.bool e38 (by kernel_rfl)) ?_
    refine WL.a (some 28) (.bool t27) h_8 ?_
    exact WL.weaken (Fr.c (Fr.c (Fr.c Fr.n))) (J13 _ _ z)
  cases t16 with
  | true =>
   replace z := ifB_t z
   refine WL.o (some 18) ?_
   refine WL.o (some 19) ?_
   refine WL.o (some 20) ?_
   refine WL.o (some 21) ?_
   refine WL.a (some 22) (.bool true) h_5 ?_
   exact WL.weaken (Fr.c (Fr.c (Fr.c Fr.n))) (J10 _ _ z)
  | false =>
   replace z := ifB_f z
   refine WL.a (some 18) (strA t0) h_5 ?_
   refine WL.a (some 19) (.int .i64 t1) h_5 ?_
   replace z := oS z; obtain ⟨t20, e39, z⟩ := z
   refine WL.b (some 20) (.int .u8 t20) h_5 (index_str (P := Pg) (h := h_5) (t := 9) (k := .i64) (by kernel_rfl) e39) ?_
   replace z := lS z; obtain ⟨t21, e40, z⟩ := z
   refine WL.val (d := (some 21)) (v := .bool t21) (h' := h_5) (by kernel_rfl) (by kernel_rfl) (val_of AV.bool e40 (by kernel_rfl)) ?_
   refine WL.a (some 22) (.bool t21) h_5 ?_
   exact WL.weaken (Fr.c (Fr.c (Fr.c Fr.n))) (J10 _ _ z)
 cases t10 with
 | true =>
  replace z := ifB_t z
  refine WL.o (some 12) ?_
  refine WL.o (some 13) ?_
  refine WL.o (some 14) ?_
  refine WL.o (some 15) ?_
  refine WL.a (some 16) (.bool true) h ?_
  exact WL.weaken (Fr.c (Fr.c (Fr.c Fr.n))) (J7 _ _ z)
 | false =>
  replace z := ifB_f z
  refine WL.a (some 12) (strA t0) h ?_
  refine WL.a (some 13) (.int .i64 t1) h ?_
  replace z := oS z; obtain ⟨t14, e41, z⟩ := z
  refine WL.b (some 14) (.int .u8 t14) h (index_str (P := Pg) (h := h) (t := 9) (k := .i64) (by kernel_rfl) e41) ?_
  replace z := lS z; obtain ⟨t15, e42, z⟩ := z
  refine WL.val (d := (some 15)) (v := .bool t15) (h' := h) (by kernel_rfl) (by kernel_rfl) (val_of AV.bool e42 (by kernel_rfl)) ?_
  refine WL.a (some 16) (.bool t15) h ?_
  exact WL.weaken (Fr.c (Fr.c (Fr.c Fr.n))) (J7 _ _ z)
noncomputable def ref09_member_fn (call : CallF) (n : Nat) : FnT := fun args h => match args with
 | [x0, x1] => obind (avStr x0) fun t0 => obind (avInt .i64 x1) fun t1 => ref09_member call n t0 t1 h
 | _ => none
set_option maxRecDepth 100000 in
theorem ref09_member_fn_eq (call : CallF) (n : Nat) (t0 : Bytes) (t1 : Int) (h : AHeap) : ref09_member_fn call n [strA t0, .int .i64 t1] h = ref09_member call n t0 t1 h :=
 (Eq.trans (obind_eq (fun t0 => obind (avInt .i64 (.int .i64 t1)) fun t1 => ref09_member call n t0 t1 h) (avStr_str t0)) (Eq.trans (obind_eq (fun t1 => ref09_member call n t0 t1 h) (avInt_int .i64 t1)) rfl))
theorem ref09_member_holds {call : CallF} (hc : SaysAll Pg call) (n : Nat) : Holds Pg 89 (ref09_member_fn call n) := by
 intro args h r h2 e
 unfold ref09_member_fn at e
 split at e
 ·replace e := oS e; obtain ⟨t0, c0, e⟩ := e; have c0 := avStr_some c0; subst c0
  replace e := oS e; obtain ⟨t1, c1, e⟩ := e; have c1 := avInt_some c1; subst c1
  exact ref09_member_ok hc e
 ·cases e
end Go.Proofs.Yteibdplpbcobbaa
