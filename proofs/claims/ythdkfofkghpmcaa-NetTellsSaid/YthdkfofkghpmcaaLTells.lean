/- Plain functions in place of the program's, and that their calls come to what they say. -/
import Derived.Test.YthdkfofkghpmcaaFrame
import Derived.Test.YthdkfofkghpmcaaAbs60
namespace Go.Proofs.Ythdkfofkghpmcaa
open Go.RowKit Abs

noncomputable def law05_NetTells_R0A (_ : BothF) (_ : Nat) (t4 : AV) (t9 : AV) (t11 : AV) (t47 : Int) (t48 : List AV) (h : AHeap) : R :=
  lett (newH h 32 [.int .i64 0, .int .i64 0, .int .i64 0, .str 0 0]) fun h_193 =>
  obind (stRow h_193 4 t48 (newP h)) fun h_195 =>
  some (.ret (.tup [t4, t9, t11, .int .i64 t47, (newP h)]), h_195)
set_option maxHeartbeats 4000000 in
set_option maxRecDepth 20000 in
theorem law05_NetTells_R0A_ok {both : BothF} (_ : BothAll Try.prog both) {n : Nat} {t4 : AV} {t9 : AV} {t11 : AV} {t47 : Int} {t48 : List AV} {h : AHeap} {rR : ARes} {hR : AHeap} (hF : law05_NetTells_R0A both n t4 t9 t11 t47 t48 h = some (rR, hR)) {w0 : Base} {m0 : Map} {rd : Option Nat} {nR : Nat} {ds : DefT} : WR Try.prog w0 m0 (Func.ntmps Try.f4) rd nR (Code.r1 (Code.p1 (Code.p2 (Code.p1 (Code.p2 (Code.p2 (Code.p2 (Code.p2 (Code.p2 (Code.p2 (Code.p2 (Code.p2 (Code.p2 (codeOf Try.f4)))))))))))))) (Post w0 m0 (Func.ntmps Try.f4) .normal ⟨Fr.tree (tupFr [4, 9, 11, 12, 13] rR), ds⟩ hR) [(4, t4), (9, t9), (11, t11), (47, .int .i64 t47), (48, .agg t48)] ds h := by
  unfold law05_NetTells_R0A at hF
  refine WR.seqK (by kernel_rfl) (fun K192 n192 e192 q192 p192 => ?_)
  refine WR.region (by kernel_rfl) ?_
  refine WLR.val (d := (some 12)) (v := .int .i64 t47) (h' := h) (by kernel_rfl) (by kernel_rfl) (by kernel_rfl) ?_
  refine WLR.nil (by kernel_rfl) ?_
  refine Go.weaken (l' := [(4, t4), (9, t9), (11, t11), (12, .int .i64 t47), (48, .agg t48)]) (Fr.sub_cons (by kernel_rfl) (Fr.sub_cons (by kernel_rfl) (Fr.sub_cons (by kernel_rfl) (Fr.sub_cons (by kernel_rfl) (Fr.sub_cons (by kernel_rfl) (Fr.sub_nil _)))))) ?_
  refine n192 ?_
  refine WR.region (by kernel_rfl) ?_
  replace hF := lett_some hF; obtain ⟨h_193, e194, hF⟩ := hF
  refine WLR.val (d := (some 13)) (v := (newP h)) (h' := h_193) (by kernel_rfl) (by kernel_rfl) (val_ofH e194 (by kernel_rfl)) ?_
  replace hF := obind_some hF; obtain ⟨h_195, e196, hF⟩ := hF
  refine WLR.eff (h' := h_195) (by kernel_rfl) (by kernel_rfl) (Eq.trans (by kernel_rfl) (store_row (P := Try.prog) (h := h_193) (t := 32) (v := (.agg t48)) (by kernel_rfl) (by kernel_rfl) e196)) ?_
  refine WLR.nil (by kernel_rfl) ?_
  refine Go.weaken (l' := [(4, t4), (9, t9), (11, t11), (12, .int .i64 t47), (13, (newP h))]) (Fr.sub_cons (by kernel_rfl) (Fr.sub_cons (by kernel_rfl) (Fr.sub_cons (by kernel_rfl) (Fr.sub_cons (by kernel_rfl) (Fr.sub_cons (by kernel_rfl) (Fr.sub_nil _)))))) ?_
  obtain ⟨hF, hF2⟩ := ret_inj hF; subst hF; subst hF2
  exact Go.postN (l' := [(4, t4), (9, t9), (11, t11), (12, .int .i64 t47), (13, (newP h))]) (Fr.sub_cons (by kernel_rfl) (Fr.sub_cons (by kernel_rfl) (Fr.sub_cons (by kernel_rfl) (Fr.sub_cons (by kernel_rfl) (Fr.sub_cons (by kernel_rfl) (Fr.sub_nil _))))))
noncomputable def law05_NetTells_R0A_fn (both : BothF) (n : Nat) : FnT := fun args h => match args with
  | [x4, x9, x11, x47, x48] => obind (avInt .i64 x47) fun t47 => obind (avAgg x48) fun t48 => law05_NetTells_R0A both n x4 x9 x11 t47 t48 h
  | _ => none
set_option maxRecDepth 100000 in
theorem law05_NetTells_R0A_fn_eq (both : BothF) (n : Nat) (t4 : AV) (t9 : AV) (t11 : AV) (t47 : Int) (t48 : List AV) (h : AHeap) : law05_NetTells_R0A_fn both n [t4, t9, t11, .int .i64 t47, .agg t48] h = law05_NetTells_R0A both n t4 t9 t11 t47 t48 h :=
  (Eq.trans (obind_eq (fun t47 => obind (avAgg (.agg t48)) fun t48 => law05_NetTells_R0A both n t4 t9 t11 t47 t48 h) (avInt_int .i64 t47)) (Eq.trans (obind_eq (fun t48 => law05_NetTells_R0A both n t4 t9 t11 t47 t48 h) (avAgg_agg t48)) rfl))
noncomputable def law05_NetTells_R0B (_ : BothF) (_ : Nat) (t4 : AV) (t9 : AV) (t11 : AV) (t12 : Int) (t13 : AV) (h : AHeap) : R :=
  lett (fun (t66 : Bool) (h_201 : AHeap) =>
    ifB t66
    (
      obind (stRow h_201 1 [.bool false] t4) fun h_203 =>
      some (.ret (.int .i64 1), h_203))
    (
      obind (ldCell h_201 t11) fun v67 =>
      obind (avInt .i64 v67) fun t67 =>
      lett (IntKind.i64.wrap (t67 + 1)) fun (t68 : Int) =>
      obind (stRow h_201 1 [.int .i64 t68] t11) fun h_208 =>
      some (.ret (.int .i64 0), h_208))) fun k200 =>
  obind (ldCell h t11) fun v49 =>
  obind (avInt .i64 v49) fun t49 =>
  obind (ldCell h t9) fun v50 =>
  obind (lenL v50) fun t51 =>
  lett (decide (t49 ≥ t51)) fun (t52 : Bool) =>
  ifB t52
  (
    k200 true h)
  (
    obind (fldP 0 t13) fun t55 =>
    obind (ldCell h t55) fun v56 =>
    obind (avInt .i64 v56) fun t56 =>
    lett ((t12 : Int) != t56) fun (t57 : Bool) =>
    ifB t57
    (
      k200 true h)
    (
      obind (ldRow h 4 t13) fun t60 =>
      obind (ldCell h t9) fun v61 =>
      obind (ldCell h t11) fun v62 =>
      obind (avInt .i64 v62) fun t62 =>
      obind (idxP 4 v61 t62) fun t63 =>
      obind (ldRow h 4 t63) fun t64 =>
      obind (eqOther Try.prog 32 (.agg t60) (.agg t64)) fun t65 =>
      lett (!t65) fun (t65_226 : Bool) =>
      k200 t65_226 h))
set_option maxHeartbeats 4000000 in
set_option maxRecDepth 20000 in
theorem law05_NetTells_R0B_ok {both : BothF} (hc : BothAll Try.prog both) {n : Nat} {t4 : AV} {t9 : AV} {t11 : AV} {t12 : Int} {t13 : AV} {h : AHeap} {rR : ARes} {hR : AHeap} (hF : law05_NetTells_R0B both n t4 t9 t11 t12 t13 h = some (rR, hR)) {w0 : Base} {m0 : Map} {rd : Option Nat} {nR : Nat} {ds : DefT} : WR Try.prog w0 m0 (Func.ntmps Try.f4) rd nR (Code.r2 (Code.p1 (Code.p2 (Code.p1 (Code.p2 (Code.p2 (Code.p2 (Code.p2 (Code.p2 (Code.p2 (Code.p2 (Code.p2 (Code.p2 (codeOf Try.f4)))))))))))))) (Post w0 m0 (Func.ntmps Try.f4) (decE rR) ⟨Fr.tree [], ds⟩ hR) [(4, t4), (9, t9), (11, t11), (12, .int .i64 t12), (13, t13)] ds h := by
  unfold law05_NetTells_R0B at hF
  refine WR.blockK (by kernel_rfl) (fun K197 n197 s197 o197 q197 p197 => ?_)
  refine WR.seqK (by kernel_rfl) (fun K198 n198 e198 q198 p198 => ?_)
  refine WR.seqK (by kernel_rfl) (fun K199 n199 e199 q199 p199 => ?_)
  replace hF := lett_some hF; obtain ⟨k200, e200, hF⟩ := hF
  have J200 : ∀ (t66 : Bool) (h_201 : AHeap), k200 t66 h_201 = some (rR, hR) → Go w0 m0 (Func.ntmps Try.f4) (K199 .normal) [(4, t4), (11, t11), (66, .bool t66)] ds h_201 := by
    intro t66 h_201 hF
    rw [e200] at hF
    refine n199 ?_
    cases t66 with
    | true =>
      replace hF := ifB_t hF
      refine WR.cond_true (by kernel_rfl) (by kernel_rfl) ?_
      refine WR.seqK (by kernel_rfl) (fun K202 n202 e202 q202 p202 => ?_)
      refine WR.region (by kernel_rfl) ?_
      replace hF := obind_some hF; obtain ⟨h_203, e204, hF⟩ := hF
      refine WLR.eff (h' := h_203) (by kernel_rfl) (by kernel_rfl) (Eq.trans (by kernel_rfl) (store_row (P := Try.prog) (h := h_201) (t := 4) (v := (.bool false)) (by kernel_rfl) (by kernel_rfl) e204)) ?_
      refine WLR.nil (by kernel_rfl) ?_
      refine Go.weaken (l' := []) (Fr.sub_nil _) ?_
      refine n202 ?_
      refine WR.ret (by kernel_rfl) ?_
      refine q198 ?_
      refine q197 ?_
      obtain ⟨hF, hF2⟩ := ret_inj hF; subst hF; subst hF2
      exact Go.postR
    | false =>
      replace hF := ifB_f hF
      refine WR.cond_false (by kernel_rfl) (by kernel_rfl) ?_
      refine WR.skip (by kernel_rfl) ?_
      refine n198 ?_
      refine WR.region (by kernel_rfl) ?_
      replace hF := obind_some hF; obtain ⟨v67, e205, hF⟩ := hF
      replace hF := obind_some hF; obtain ⟨t67, c206, hF⟩ := hF
      have c206 := avInt_some c206
      subst c206
      refine WLR.val (d := (some 67)) (v := .int .i64 t67) (h' := h_201) (by kernel_rfl) (by kernel_rfl) (Eq.trans (by kernel_rfl) (load_cell (P := Try.prog) (h := h_201) (t := 3) (by kernel_rfl) e205)) ?_
      replace hF := lett_some hF; obtain ⟨t68, e207, hF⟩ := hF
      refine WLR.val (d := (some 68)) (v := .int .i64 t68) (h' := h_201) (by kernel_rfl) (by kernel_rfl) (val_of (AV.int .i64) e207 (by kernel_rfl)) ?_
      replace hF := obind_some hF; obtain ⟨h_208, e209, hF⟩ := hF
      refine WLR.eff (h' := h_208) (by kernel_rfl) (by kernel_rfl) (Eq.trans (by kernel_rfl) (store_row (P := Try.prog) (h := h_201) (t := 3) (v := (.int .i64 t68)) (by kernel_rfl) (by kernel_rfl) e209)) ?_
      refine WLR.nil (by kernel_rfl) ?_
      refine Go.weaken (l' := []) (Fr.sub_nil _) ?_
      refine n197 ?_
      obtain ⟨hF, hF2⟩ := ret_inj hF; subst hF; subst hF2
      exact Go.postN (l' := []) (Fr.sub_nil _)
  refine WR.draw (by kernel_rfl) (hc.says.ok w0) (plan := [0, 1, 2, 3, 4, 5, 6, 7, 8, 9, 10, 11, 12, 13, 14, 15, 16, 17]) (by kernel_rfl) (by kernel_rfl) (by kernel_rfl) ?_
  replace hF := obind_some hF; obtain ⟨v49, e210, hF⟩ := hF
  replace hF := obind_some hF; obtain ⟨t49, c211, hF⟩ := hF
  have c211 := avInt_some c211
  subst c211
  refine WD.val (d := (some 49)) (v := .int .i64 t49) (h' := h) (by kernel_rfl) (by kernel_rfl) (Eq.trans (by kernel_rfl) (load_cell (P := Try.prog) (h := h) (t := 3) (by kernel_rfl) e210)) (k := 1) (by kernel_rfl) (fun e => absurd e (by decide)) (by decide) ?_
  replace hF := obind_some hF; obtain ⟨v50, e212, hF⟩ := hF
  refine WD.val (d := (some 50)) (v := v50) (h' := h) (by kernel_rfl) (by kernel_rfl) (Eq.trans (by kernel_rfl) (load_cell (P := Try.prog) (h := h) (t := 27) (by kernel_rfl) e212)) (k := 1) (by kernel_rfl) (fun e => absurd e (by decide)) (by decide) ?_
  replace hF := obind_some hF; obtain ⟨t51, e213, hF⟩ := hF
  refine WD.val (d := (some 51)) (v := .int .i64 t51) (h' := h) (by kernel_rfl) (by kernel_rfl) (Eq.trans (by kernel_rfl) (len_row (P := Try.prog) (h := h) (t := 27) (e' := 32) (by kernel_rfl) e213)) (k := 0) (by kernel_rfl) (fun e => absurd e (by decide)) (by decide) ?_
  replace hF := lett_some hF; obtain ⟨t52, e214, hF⟩ := hF
  refine WD.val (d := (some 52)) (v := .bool t52) (h' := h) (by kernel_rfl) (by kernel_rfl) (val_of AV.bool e214 (by kernel_rfl)) (k := 0) (by kernel_rfl) (fun e => absurd e (by decide)) (by decide) ?_
  refine WD.val (d := (some 53)) (v := .bool t52) (h' := h) (by kernel_rfl) (by kernel_rfl) (by kernel_rfl) (k := 0) (by kernel_rfl) (fun e => absurd e (by decide)) (by decide) ?_
  cases t52 with
  | true =>
    replace hF := ifB_t hF
    refine WD.not (d := (some 54)) (by kernel_rfl) (by kernel_rfl) (k := 0) (by kernel_rfl) (fun e => absurd e (by decide)) (by decide) ?_
    refine WD.not (d := (some 55)) (by kernel_rfl) (by kernel_rfl) (k := 0) (by kernel_rfl) (fun e => absurd e (by decide)) (by decide) ?_
    refine WD.not (d := (some 56)) (by kernel_rfl) (by kernel_rfl) (k := 1) (by kernel_rfl) (fun e => absurd e (by decide)) (by decide) ?_
    refine WD.not (d := (some 57)) (by kernel_rfl) (by kernel_rfl) (k := 0) (by kernel_rfl) (fun e => absurd e (by decide)) (by decide) ?_
    refine WD.val (d := (some 58)) (v := .bool true) (h' := h) (by kernel_rfl) (by kernel_rfl) (by kernel_rfl) (k := 0) (by kernel_rfl) (fun e => absurd e (by decide)) (by decide) ?_
    refine WD.val (d := (some 59)) (v := .bool true) (h' := h) (by kernel_rfl) (by kernel_rfl) (by kernel_rfl) (k := 0) (by kernel_rfl) (fun e => absurd e (by decide)) (by decide) ?_
    refine WD.not (d := (some 60)) (by kernel_rfl) (by kernel_rfl) (k := 1) (by kernel_rfl) (fun e => absurd e (by decide)) (by decide) ?_
    refine WD.not (d := (some 61)) (by kernel_rfl) (by kernel_rfl) (k := 1) (by kernel_rfl) (fun e => absurd e (by decide)) (by decide) ?_
    refine WD.not (d := (some 62)) (by kernel_rfl) (by kernel_rfl) (k := 1) (by kernel_rfl) (fun e => absurd e (by decide)) (by decide) ?_
    refine WD.not (d := (some 63)) (by kernel_rfl) (by kernel_rfl) (k := 0) (by kernel_rfl) (fun e => absurd e (by decide)) (by decide) ?_
    refine WD.not (d := (some 64)) (by kernel_rfl) (by kernel_rfl) (k := 1) (by kernel_rfl) (fun e => absurd e (by decide)) (by decide) ?_
    refine WD.not (d := (some 65)) (by kernel_rfl) (by kernel_rfl) (k := 0) (by kernel_rfl) (fun e => absurd e (by decide)) (by decide) ?_
    refine WD.val (d := (some 66)) (v := .bool true) (h' := h) (by kernel_rfl) (by kernel_rfl) (by kernel_rfl) (k := 0) (by kernel_rfl) (fun e => absurd e (by decide)) (by decide) ?_
    refine WD.nil ?_
    exact Go.weaken (Fr.sub_cons (by kernel_rfl) (Fr.sub_cons (by kernel_rfl) (Fr.sub_cons (by kernel_rfl) (Fr.sub_nil _)))) (J200 _ _ hF)
  | false =>
    replace hF := ifB_f hF
    refine WD.val (d := (some 54)) (v := .int .i64 t12) (h' := h) (by kernel_rfl) (by kernel_rfl) (by kernel_rfl) (k := 0) (by kernel_rfl) (fun e => absurd e (by decide)) (by decide) ?_
    replace hF := obind_some hF; obtain ⟨t55, e215, hF⟩ := hF
    refine WD.val (d := (some 55)) (v := t55) (h' := h) (by kernel_rfl) (by kernel_rfl) (Eq.trans (by kernel_rfl) (field_ptr (P := Try.prog) (h := h) (s := 32) (f := 0) (by kernel_rfl) e215)) (k := 0) (by kernel_rfl) (fun e => absurd e (by decide)) (by decide) ?_
    replace hF := obind_some hF; obtain ⟨v56, e216, hF⟩ := hF
    replace hF := obind_some hF; obtain ⟨t56, c217, hF⟩ := hF
    have c217 := avInt_some c217
    subst c217
    refine WD.val (d := (some 56)) (v := .int .i64 t56) (h' := h) (by kernel_rfl) (by kernel_rfl) (Eq.trans (by kernel_rfl) (load_cell (P := Try.prog) (h := h) (t := 3) (by kernel_rfl) e216)) (k := 1) (by kernel_rfl) (fun e => absurd e (by decide)) (by decide) ?_
    replace hF := lett_some hF; obtain ⟨t57, e218, hF⟩ := hF
    refine WD.val (d := (some 57)) (v := .bool t57) (h' := h) (by kernel_rfl) (by kernel_rfl) (val_of AV.bool e218 (by kernel_rfl)) (k := 0) (by kernel_rfl) (fun e => absurd e (by decide)) (by decide) ?_
    refine WD.val (d := (some 58)) (v := .bool t57) (h' := h) (by kernel_rfl) (by kernel_rfl) (by kernel_rfl) (k := 0) (by kernel_rfl) (fun e => absurd e (by decide)) (by decide) ?_
    refine WD.val (d := (some 59)) (v := .bool t57) (h' := h) (by kernel_rfl) (by kernel_rfl) (by kernel_rfl) (k := 0) (by kernel_rfl) (fun e => absurd e (by decide)) (by decide) ?_
    cases t57 with
    | true =>
      replace hF := ifB_t hF
      refine WD.not (d := (some 60)) (by kernel_rfl) (by kernel_rfl) (k := 1) (by kernel_rfl) (fun e => absurd e (by decide)) (by decide) ?_
      refine WD.not (d := (some 61)) (by kernel_rfl) (by kernel_rfl) (k := 1) (by kernel_rfl) (fun e => absurd e (by decide)) (by decide) ?_
      refine WD.not (d := (some 62)) (by kernel_rfl) (by kernel_rfl) (k := 1) (by kernel_rfl) (fun e => absurd e (by decide)) (by decide) ?_
      refine WD.not (d := (some 63)) (by kernel_rfl) (by kernel_rfl) (k := 0) (by kernel_rfl) (fun e => absurd e (by decide)) (by decide) ?_
      refine WD.not (d := (some 64)) (by kernel_rfl) (by kernel_rfl) (k := 1) (by kernel_rfl) (fun e => absurd e (by decide)) (by decide) ?_
      refine WD.not (d := (some 65)) (by kernel_rfl) (by kernel_rfl) (k := 0) (by kernel_rfl) (fun e => absurd e (by decide)) (by decide) ?_
      refine WD.val (d := (some 66)) (v := .bool true) (h' := h) (by kernel_rfl) (by kernel_rfl) (by kernel_rfl) (k := 0) (by kernel_rfl) (fun e => absurd e (by decide)) (by decide) ?_
      refine WD.nil ?_
      exact Go.weaken (Fr.sub_cons (by kernel_rfl) (Fr.sub_cons (by kernel_rfl) (Fr.sub_cons (by kernel_rfl) (Fr.sub_nil _)))) (J200 _ _ hF)
    | false =>
      replace hF := ifB_f hF
      replace hF := obind_some hF; obtain ⟨t60, e219, hF⟩ := hF
      refine WD.val (d := (some 60)) (v := .agg t60) (h' := h) (by kernel_rfl) (by kernel_rfl) (Eq.trans (by kernel_rfl) (load_row (P := Try.prog) (h := h) (t := 32) (by kernel_rfl) (by kernel_rfl) e219)) (k := 1) (by kernel_rfl) (fun e => absurd e (by decide)) (by decide) ?_
      replace hF := obind_some hF; obtain ⟨v61, e220, hF⟩ := hF
      refine WD.val (d := (some 61)) (v := v61) (h' := h) (by kernel_rfl) (by kernel_rfl) (Eq.trans (by kernel_rfl) (load_cell (P := Try.prog) (h := h) (t := 27) (by kernel_rfl) e220)) (k := 1) (by kernel_rfl) (fun e => absurd e (by decide)) (by decide) ?_
      replace hF := obind_some hF; obtain ⟨v62, e221, hF⟩ := hF
      replace hF := obind_some hF; obtain ⟨t62, c222, hF⟩ := hF
      have c222 := avInt_some c222
      subst c222
      refine WD.val (d := (some 62)) (v := .int .i64 t62) (h' := h) (by kernel_rfl) (by kernel_rfl) (Eq.trans (by kernel_rfl) (load_cell (P := Try.prog) (h := h) (t := 3) (by kernel_rfl) e221)) (k := 1) (by kernel_rfl) (fun e => absurd e (by decide)) (by decide) ?_
      replace hF := obind_some hF; obtain ⟨t63, e223, hF⟩ := hF
      refine WD.val (d := (some 63)) (v := t63) (h' := h) (by kernel_rfl) (by kernel_rfl) (Eq.trans (by kernel_rfl) (index_row (P := Try.prog) (h := h) (t := 27) (e' := 32) (k := .i64) (by kernel_rfl) (by kernel_rfl) (by kernel_rfl) e223)) (k := 0) (by kernel_rfl) (fun e => absurd e (by decide)) (by decide) ?_
      replace hF := obind_some hF; obtain ⟨t64, e224, hF⟩ := hF
      refine WD.val (d := (some 64)) (v := .agg t64) (h' := h) (by kernel_rfl) (by kernel_rfl) (Eq.trans (by kernel_rfl) (load_row (P := Try.prog) (h := h) (t := 32) (by kernel_rfl) (by kernel_rfl) e224)) (k := 1) (by kernel_rfl) (fun e => absurd e (by decide)) (by decide) ?_
      replace hF := obind_some hF; obtain ⟨t65, e225, hF⟩ := hF
      replace hF := lett_some hF; obtain ⟨t65_226, e227, hF⟩ := hF
      refine WD.val (d := (some 65)) (v := .bool t65_226) (h' := h) (by kernel_rfl) (by kernel_rfl) (val_of AV.bool e227 (Eq.trans (by kernel_rfl) (neq_other (P := Try.prog) (h := h) (t := 32) (lit := false) (by kernel_rfl) e225))) (k := 0) (by kernel_rfl) (fun e => absurd e (by decide)) (by decide) ?_
      refine WD.val (d := (some 66)) (v := .bool t65_226) (h' := h) (by kernel_rfl) (by kernel_rfl) (by kernel_rfl) (k := 0) (by kernel_rfl) (fun e => absurd e (by decide)) (by decide) ?_
      refine WD.nil ?_
      exact Go.weaken (Fr.sub_cons (by kernel_rfl) (Fr.sub_cons (by kernel_rfl) (Fr.sub_cons (by kernel_rfl) (Fr.sub_nil _)))) (J200 _ _ hF)
noncomputable def law05_NetTells_R0B_fn (both : BothF) (n : Nat) : FnT := fun args h => match args with
  | [x4, x9, x11, x12, x13] => obind (avInt .i64 x12) fun t12 => law05_NetTells_R0B both n x4 x9 x11 t12 x13 h
  | _ => none
set_option maxRecDepth 100000 in
theorem law05_NetTells_R0B_fn_eq (both : BothF) (n : Nat) (t4 : AV) (t9 : AV) (t11 : AV) (t12 : Int) (t13 : AV) (h : AHeap) : law05_NetTells_R0B_fn both n [t4, t9, t11, .int .i64 t12, t13] h = law05_NetTells_R0B both n t4 t9 t11 t12 t13 h :=
  (Eq.trans (obind_eq (fun t12 => law05_NetTells_R0B both n t4 t9 t11 t12 t13 h) (avInt_int .i64 t12)) rfl)
noncomputable def law05_NetTells_R0 (n : Nat) : LSite := ⟨Func.ntmps Try.f4, (Code.p1 (Code.p2 (Code.p1 (Code.p2 (Code.p2 (Code.p2 (Code.p2 (Code.p2 (Code.p2 (Code.p2 (Code.p2 (Code.p2 (codeOf Try.f4))))))))))))), [4, 9, 11, 47, 48], fun both => law05_NetTells_R0A_fn both n, [4, 9, 11, 12, 13], fun both => law05_NetTells_R0B_fn both n⟩
set_option maxRecDepth 20000 in
theorem law05_NetTells_R0_ok (n : Nat) : LSite.ok Try.prog (law05_NetTells_R0 n) where
  A := fun hc vs h r h2 e w0 m0 rd n2 ds => by
      have e : law05_NetTells_R0A_fn _ n vs h = some (r, h2) := e
      unfold law05_NetTells_R0A_fn at e
      split at e
      · replace e := obind_some e; obtain ⟨t47, c47, e⟩ := e; have c47 := avInt_some c47; subst c47
        replace e := obind_some e; obtain ⟨t48, c48, e⟩ := e; have c48 := avAgg_some c48; subst c48
        exact law05_NetTells_R0A_ok hc (n := n) e
      · cases e
  B := fun hc vs h r h2 e w0 m0 rd n2 ds => by
      have e : law05_NetTells_R0B_fn _ n vs h = some (r, h2) := e
      unfold law05_NetTells_R0B_fn at e
      split at e
      · replace e := obind_some e; obtain ⟨t12, c12, e⟩ := e; have c12 := avInt_some c12; subst c12
        exact law05_NetTells_R0B_ok hc (n := n) e
      · cases e
noncomputable def law05_NetTells_R1A (_ : BothF) (_ : Nat) (t3 : AV) (t14 : AV) (h : AHeap) : R :=
  some (.ret (.tup [t3, t14]), h)
set_option maxHeartbeats 4000000 in
set_option maxRecDepth 20000 in
theorem law05_NetTells_R1A_ok {both : BothF} (_ : BothAll Try.prog both) {n : Nat} {t3 : AV} {t14 : AV} {h : AHeap} {rR : ARes} {hR : AHeap} (hF : law05_NetTells_R1A both n t3 t14 h = some (rR, hR)) {w0 : Base} {m0 : Map} {rd : Option Nat} {nR : Nat} {ds : DefT} : WR Try.prog w0 m0 (Func.ntmps Try.f4) rd nR (Code.r1 (Code.p1 (Code.p2 (Code.p1 (Code.p2 (Code.p2 (Code.p2 (Code.p2 (Code.p2 (Code.p2 (Code.p2 (Code.p2 (Code.p2 (Code.p2 (Code.p2 (codeOf Try.f4)))))))))))))))) (Post w0 m0 (Func.ntmps Try.f4) .normal ⟨Fr.tree (tupFr [3, 14] rR), ds⟩ hR) [(3, t3), (14, t14)] ds h := by
  unfold law05_NetTells_R1A at hF
  refine WR.skip (by kernel_rfl) ?_
  obtain ⟨hF, hF2⟩ := ret_inj hF; subst hF; subst hF2
  exact Go.postN (l' := [(3, t3), (14, t14)]) (Fr.sub_cons (by kernel_rfl) (Fr.sub_cons (by kernel_rfl) (Fr.sub_nil _)))
noncomputable def law05_NetTells_R1A_fn (both : BothF) (n : Nat) : FnT := fun args h => match args with
  | [x3, x14] => law05_NetTells_R1A both n x3 x14 h
  | _ => none
set_option maxRecDepth 100000 in
theorem law05_NetTells_R1A_fn_eq (both : BothF) (n : Nat) (t3 : AV) (t14 : AV) (h : AHeap) : law05_NetTells_R1A_fn both n [t3, t14] h = law05_NetTells_R1A both n t3 t14 h :=
  rfl
noncomputable def law05_NetTells_R1B (_ : BothF) (_ : Nat) (t3 : AV) (t14 : AV) (h : AHeap) : R :=
  obind (ldCell h t14) fun v72 =>
  obind (avInt .i64 v72) fun t72 =>
  lett (IntKind.i64.wrap (t72 + 1)) fun (t73 : Int) =>
  obind (stRow h 1 [.int .i64 t73] t14) fun h_233 =>
  obind (ldCell h_233 t14) fun v74 =>
  obind (avInt .i64 v74) fun t74 =>
  obind (ldCell h_233 t3) fun v75 =>
  obind (avInt .i64 v75) fun t75 =>
  lett (decide (t74 ≥ t75)) fun (t76 : Bool) =>
  ifB t76
  (
    some (.ret (.int .i64 6), h_233))
  (
    some (.ret (.int .i64 0), h_233))
set_option maxHeartbeats 4000000 in
set_option maxRecDepth 20000 in
theorem law05_NetTells_R1B_ok {both : BothF} (_ : BothAll Try.prog both) {n : Nat} {t3 : AV} {t14 : AV} {h : AHeap} {rR : ARes} {hR : AHeap} (hF : law05_NetTells_R1B both n t3 t14 h = some (rR, hR)) {w0 : Base} {m0 : Map} {rd : Option Nat} {nR : Nat} {ds : DefT} : WR Try.prog w0 m0 (Func.ntmps Try.f4) rd nR (Code.r2 (Code.p1 (Code.p2 (Code.p1 (Code.p2 (Code.p2 (Code.p2 (Code.p2 (Code.p2 (Code.p2 (Code.p2 (Code.p2 (Code.p2 (Code.p2 (Code.p2 (codeOf Try.f4)))))))))))))))) (Post w0 m0 (Func.ntmps Try.f4) (decE rR) ⟨Fr.tree [], ds⟩ hR) [(3, t3), (14, t14)] ds h := by
  unfold law05_NetTells_R1B at hF
  refine WR.blockK (by kernel_rfl) (fun K228 n228 s228 o228 q228 p228 => ?_)
  refine WR.seqK (by kernel_rfl) (fun K229 n229 e229 q229 p229 => ?_)
  refine WR.region (by kernel_rfl) ?_
  replace hF := obind_some hF; obtain ⟨v72, e230, hF⟩ := hF
  replace hF := obind_some hF; obtain ⟨t72, c231, hF⟩ := hF
  have c231 := avInt_some c231
  subst c231
  refine WLR.val (d := (some 72)) (v := .int .i64 t72) (h' := h) (by kernel_rfl) (by kernel_rfl) (Eq.trans (by kernel_rfl) (load_cell (P := Try.prog) (h := h) (t := 3) (by kernel_rfl) e230)) ?_
  replace hF := lett_some hF; obtain ⟨t73, e232, hF⟩ := hF
  refine WLR.val (d := (some 73)) (v := .int .i64 t73) (h' := h) (by kernel_rfl) (by kernel_rfl) (val_of (AV.int .i64) e232 (by kernel_rfl)) ?_
  replace hF := obind_some hF; obtain ⟨h_233, e234, hF⟩ := hF
  refine WLR.eff (h' := h_233) (by kernel_rfl) (by kernel_rfl) (Eq.trans (by kernel_rfl) (store_row (P := Try.prog) (h := h) (t := 3) (v := (.int .i64 t73)) (by kernel_rfl) (by kernel_rfl) e234)) ?_
  refine WLR.nil (by kernel_rfl) ?_
  refine Go.weaken (l' := [(3, t3), (14, t14)]) (Fr.sub_cons (by kernel_rfl) (Fr.sub_cons (by kernel_rfl) (Fr.sub_nil _))) ?_
  refine n229 ?_
  refine WR.seqK (by kernel_rfl) (fun K235 n235 e235 q235 p235 => ?_)
  refine WR.region (by kernel_rfl) ?_
  replace hF := obind_some hF; obtain ⟨v74, e236, hF⟩ := hF
  replace hF := obind_some hF; obtain ⟨t74, c237, hF⟩ := hF
  have c237 := avInt_some c237
  subst c237
  refine WLR.val (d := (some 74)) (v := .int .i64 t74) (h' := h_233) (by kernel_rfl) (by kernel_rfl) (Eq.trans (by kernel_rfl) (load_cell (P := Try.prog) (h := h_233) (t := 3) (by kernel_rfl) e236)) ?_
  replace hF := obind_some hF; obtain ⟨v75, e238, hF⟩ := hF
  replace hF := obind_some hF; obtain ⟨t75, c239, hF⟩ := hF
  have c239 := avInt_some c239
  subst c239
  refine WLR.val (d := (some 75)) (v := .int .i64 t75) (h' := h_233) (by kernel_rfl) (by kernel_rfl) (Eq.trans (by kernel_rfl) (load_cell (P := Try.prog) (h := h_233) (t := 3) (by kernel_rfl) e238)) ?_
  replace hF := lett_some hF; obtain ⟨t76, e240, hF⟩ := hF
  refine WLR.val (d := (some 76)) (v := .bool t76) (h' := h_233) (by kernel_rfl) (by kernel_rfl) (val_of AV.bool e240 (by kernel_rfl)) ?_
  refine WLR.nil (by kernel_rfl) ?_
  refine Go.weaken (l' := [(76, .bool t76)]) (Fr.sub_cons (by kernel_rfl) (Fr.sub_nil _)) ?_
  refine n235 ?_
  cases t76 with
  | true =>
    replace hF := ifB_t hF
    refine WR.cond_true (by kernel_rfl) (by kernel_rfl) ?_
    refine WR.exit (by kernel_rfl) ?_
    refine o228 (by kernel_rfl) ?_
    obtain ⟨hF, hF2⟩ := ret_inj hF; subst hF; subst hF2
    exact Go.postE
  | false =>
    replace hF := ifB_f hF
    refine WR.cond_false (by kernel_rfl) (by kernel_rfl) ?_
    refine WR.skip (by kernel_rfl) ?_
    refine n228 ?_
    obtain ⟨hF, hF2⟩ := ret_inj hF; subst hF; subst hF2
    exact Go.postN (l' := []) (Fr.sub_nil _)
noncomputable def law05_NetTells_R1B_fn (both : BothF) (n : Nat) : FnT := fun args h => match args with
  | [x3, x14] => law05_NetTells_R1B both n x3 x14 h
  | _ => none
set_option maxRecDepth 100000 in
theorem law05_NetTells_R1B_fn_eq (both : BothF) (n : Nat) (t3 : AV) (t14 : AV) (h : AHeap) : law05_NetTells_R1B_fn both n [t3, t14] h = law05_NetTells_R1B both n t3 t14 h :=
  rfl
noncomputable def law05_NetTells_R1 (n : Nat) : LSite := ⟨Func.ntmps Try.f4, (Code.p1 (Code.p2 (Code.p1 (Code.p2 (Code.p2 (Code.p2 (Code.p2 (Code.p2 (Code.p2 (Code.p2 (Code.p2 (Code.p2 (Code.p2 (Code.p2 (codeOf Try.f4))))))))))))))), [3, 14], fun both => law05_NetTells_R1A_fn both n, [3, 14], fun both => law05_NetTells_R1B_fn both n⟩
set_option maxRecDepth 20000 in
theorem law05_NetTells_R1_ok (n : Nat) : LSite.ok Try.prog (law05_NetTells_R1 n) where
  A := fun hc vs h r h2 e w0 m0 rd n2 ds => by
      have e : law05_NetTells_R1A_fn _ n vs h = some (r, h2) := e
      unfold law05_NetTells_R1A_fn at e
      split at e
      · exact law05_NetTells_R1A_ok hc (n := n) e
      · cases e
  B := fun hc vs h r h2 e w0 m0 rd n2 ds => by
      have e : law05_NetTells_R1B_fn _ n vs h = some (r, h2) := e
      unfold law05_NetTells_R1B_fn at e
      split at e
      · exact law05_NetTells_R1B_ok hc (n := n) e
      · cases e
noncomputable def law05_NetTells_L1b (both : BothF) (t0 : AV) (h_2 : AHeap) (k34 : AV → AHeap → R) (self : AV → Int → AHeap → R) (t5_160 : AV) (t6 : Int) (h_161 : AHeap) : R :=
  obind (lenL t0) fun t24 =>
  lett (decide (t6 < t24)) fun (t25 : Bool) =>
  ifB t25
  (
    obind (idxP 4 t0 t6) fun t32 =>
    obind (ldRow h_161 4 t32) fun t33 =>
    callN (both false 12 [t5_160, .agg t33] h_161) fun r34 h_171 =>
    obind (extT 0 r34) fun v35 =>
    obind (extT 1 r34) fun v36 =>
    obind (avAgg v36) fun t36 =>
    lett (newH h_171 35 [.int .i64 0, .int .i64 0, .int .i64 0, .int .i64 0, .str 0 0, .int .i64 0]) fun h_176 =>
    obind (stRow h_176 6 t36 (newP h_171)) fun h_178 =>
    outK (opBin Try.prog h_178 .eql 25 true (some v35) (some AV.nilp)) fun v39 h_182 =>
    obind (avBool v39) fun t39 =>
    ifB t39
    (
      obind (stRow h_182 1 [.bool false] (newP h_2)) fun h_186 =>
      marksK [] h_186 fun h_188 =>
      obind (ldCell h_188 (newP h_2)) fun w4_190 =>
      some (.ret (w4_190), h_188))
    (
      lett (IntKind.i64.wrap (t6 + 1)) fun (t27 : Int) =>
      self v35 t27 h_182))
  (
    k34 t5_160 h_161)
noncomputable def law05_NetTells_L1 (both : BothF) (t0 : AV) (h_2 : AHeap) (k34 : AV → AHeap → R) : Nat → AV → Int → AHeap → R := iterR (fun _ _ _ => none) (law05_NetTells_L1b both t0 h_2 k34)
theorem law05_NetTells_L1_s (both : BothF) (t0 : AV) (h_2 : AHeap) (k34 : AV → AHeap → R) (m : Nat) : law05_NetTells_L1 both t0 h_2 k34 (m + 1) = law05_NetTells_L1b both t0 h_2 k34 (law05_NetTells_L1 both t0 h_2 k34 m) := rfl
noncomputable def law05_NetTells_L0b (h_37 : AHeap) (k106 : AHeap → R) (self : Int → AHeap → R) (t16 : Int) (h_120 : AHeap) : R :=
  obind (ldCell h_120 (newP h_37)) fun v105 =>
  obind (lenL v105) fun t106 =>
  lett (decide (t16 < t106)) fun (t107 : Bool) =>
  ifB t107
  (
    obind (ldCell h_120 (newP h_37)) fun v110 =>
    obind (idxP 4 v110 t16) fun t113 =>
    obind (stRow h_120 4 ([.int .i64 (-1), .int .i64 0, .int .i64 0, .str 0 0] : List AV) t113) fun h_130 =>
    lett (IntKind.i64.wrap (t16 + 1)) fun (t109 : Int) =>
    self t109 h_130)
  (
    k106 h_120)
noncomputable def law05_NetTells_L0 (h_37 : AHeap) (k106 : AHeap → R) : Nat → Int → AHeap → R := iterR (fun _ _ => none) (law05_NetTells_L0b h_37 k106)
theorem law05_NetTells_L0_s (h_37 : AHeap) (k106 : AHeap → R) (m : Nat) : law05_NetTells_L0 h_37 k106 (m + 1) = law05_NetTells_L0b h_37 k106 (law05_NetTells_L0 h_37 k106 m) := rfl
noncomputable def law05_NetTells (both : BothF) (n : Nat) (t0 : AV) (t1 : Int) (h : AHeap) : R :=
  lett (newH h 3 [.int .i64 t1]) fun h_2 =>
  lett (newH h_2 4 [.bool false]) fun h_4 =>
  callN (both false 9 [] h_4) fun r17 h_8 =>
  obind (avBool r17) fun t17 =>
  lett (!t17) fun (t18 : Bool) =>
  ifB t18
  (
    obind (stRow h_8 1 [.bool false] (newP h_2)) fun h_13 =>
    marksK [] h_13 fun h_15 =>
    obind (ldCell h_15 (newP h_2)) fun w4 =>
    some (.ret (w4), h_15))
  (
    callN (both false 10 [t0] h_8) fun r20 h_19 =>
    obind (avBool r20) fun t20 =>
    ifB t20
    (
      obind (stRow h_19 1 [.bool true] (newP h_2)) fun h_23 =>
      marksK [] h_23 fun h_25 =>
      obind (ldCell h_25 (newP h_2)) fun w4_27 =>
      some (.ret (w4_27), h_25))
    (
      callN (both false 11 [] h_19) fun r21 h_29 =>
      lett (fun (t5 : AV) (h_35 : AHeap) =>
        callN (both false 15 [t5] h_35) fun r41 h_37 =>
        lett (newH h_37 27 [.nsl]) fun h_39 =>
        obind (stRow h_39 1 (AV.cells r41) (newP h_37)) fun h_41 =>
        callN (both false 16 [t5] h_41) fun r43 h_44 =>
        outK (opBin Try.prog h_44 .eql 45 true (some r43) (some AV.nfn)) fun v45 h_48 =>
        obind (avBool v45) fun t45 =>
        ifB t45
        (
          obind (stRow h_48 1 [.bool false] (newP h_2)) fun h_52 =>
          marksK [] h_52 fun h_54 =>
          obind (ldCell h_54 (newP h_2)) fun w4_56 =>
          some (.ret (w4_56), h_54))
        (
          lett (newH h_48 3 [.int .i64 0]) fun h_58 =>
          obind (stRow h_58 1 [.int .i64 0] (newP h_48)) fun h_60 =>
          rngK (rngX Try.prog both (Func.ntmps Try.f4) r43 (Code.p1 (Code.p2 (Code.p1 (Code.p2 (Code.p2 (Code.p2 (Code.p2 (Code.p2 (Code.p2 (Code.p2 (Code.p2 (Code.p2 (codeOf Try.f4))))))))))))) (Fr.tree [(3, (newP h)), (4, (newP h_2)), (5, t5), (9, (newP h_37)), (10, r43), (11, (newP h_48)), (46, r43)]) [] h_60) (fun h_65 =>
            lett (newH h_65 3 [.int .i64 0]) fun h_69 =>
            obind (stRow h_69 1 [.int .i64 0] (newP h_65)) fun h_71 =>
            lett (fun (d : DefT) (h_77 : AHeap) =>
              obind (ldCell h_77 (newP h_48)) fun v77 =>
              obind (avInt .i64 v77) fun t77 =>
              obind (ldCell h_77 (newP h_37)) fun v78 =>
              obind (lenL v78) fun t79 =>
              lett ((t77 : Int) != t79) fun (t80 : Bool) =>
              lett (fun (t86 : Bool) (h_85 : AHeap) =>
                lett (fun (t100 : Bool) (h_88 : AHeap) =>
                  ifB t100
                  (
                    obind (stRow h_88 1 [.bool false] (newP h_2)) fun h_92 =>
                    marksK d h_92 fun h_94 =>
                    obind (ldCell h_94 (newP h_2)) fun w4_96 =>
                    some (.ret (w4_96), h_94))
                  (
                    outK (bldSl Try.prog h_88 27 0 []) fun v101 h_98 =>
                    obind (ldCell h_98 (newP h_37)) fun v102 =>
                    outK (opAppend Try.prog h_98 27 27 v101 v102) fun v103 h_101 =>
                    lett (fun  (h_107 : AHeap) =>
                      callN (both false 15 [t5] h_107) fun r115 h_109 =>
                      callN (both false 14 [r115, v103] h_109) fun r117 h_111 =>
                      obind (avBool r117) fun t117 =>
                      obind (stRow h_111 1 [.bool t117] (newP h_2)) fun h_114 =>
                      marksK d h_114 fun h_116 =>
                      obind (ldCell h_116 (newP h_2)) fun w4_118 =>
                      some (.ret (w4_118), h_116)) fun k106 =>
                    law05_NetTells_L0 h_37 k106 n 0 h_101)) fun j100 =>
                ifB t86
                (
                  j100 true h_85)
                (
                  obind (ldCell h_85 (newP h_37)) fun v88 =>
                  obind (lenL v88) fun t89 =>
                  lett (decide (t89 > 0)) fun (t90 : Bool) =>
                  lett (fun (t99 : Bool) (h_136 : AHeap) =>
                    j100 t99 h_136) fun j99 =>
                  ifB t90
                  (
                    obind (ldCell h_85 (newP h_65)) fun v92 =>
                    obind (avInt .i64 v92) fun t92 =>
                    obind (ldCell h_85 (newP h)) fun v93 =>
                    obind (avInt .i64 v93) fun t93 =>
                    lett (if 1 > t93 then 1 else t93) fun (t94 : Int) =>
                    obind (ldCell h_85 (newP h_37)) fun v95 =>
                    obind (lenL v95) fun t96 =>
                    lett (if t96 < t94 then t96 else t94) fun (t97 : Int) =>
                    lett ((t92 : Int) != t97) fun (t98 : Bool) =>
                    j99 t98 h_85)
                  (
                    j99 false h_85))) fun j86 =>
              ifB t80
              (
                j86 true h_77)
              (
                obind (ldCell h_77 (newP h_65)) fun v82 =>
                obind (avInt .i64 v82) fun t82 =>
                obind (ldCell h_77 (newP h_37)) fun v83 =>
                obind (lenL v83) fun t84 =>
                lett (decide (t82 > t84)) fun (t85 : Bool) =>
                j86 t85 h_77)) fun k76 =>
            rngK (rngX Try.prog both (Func.ntmps Try.f4) r43 (Code.p1 (Code.p2 (Code.p1 (Code.p2 (Code.p2 (Code.p2 (Code.p2 (Code.p2 (Code.p2 (Code.p2 (Code.p2 (Code.p2 (Code.p2 (Code.p2 (codeOf Try.f4))))))))))))))) (Fr.tree [(3, (newP h)), (4, (newP h_2)), (5, t5), (9, (newP h_37)), (11, (newP h_48)), (14, (newP h_65)), (69, r43)]) (dmark (AHeap.next h_60) :: []) h_71) (fun h_153 =>
              k76 (dmark (AHeap.next h_71) :: (dmark (AHeap.next h_60) :: [])) h_153) (fun _ =>
              none) (fun id h_155 =>
              ifB (Nat.beq id 4)
              (
                k76 (dmark (AHeap.next h_71) :: (dmark (AHeap.next h_60) :: [])) h_155)
              (
                none))) (fun h_66 =>
            marksK (dmark (AHeap.next h_60) :: []) h_66 fun h_156 =>
            obind (ldCell h_156 (newP h_2)) fun w4_158 =>
            some (.ret (w4_158), h_156)) (fun _ _ =>
            none))) fun k34 =>
      law05_NetTells_L1 both t0 h_2 k34 n r21 0 h_29))
set_option maxHeartbeats 4000000 in
set_option maxRecDepth 20000 in
theorem law05_NetTells_ok {both : BothF} (hc : BothAll Try.prog both) {n : Nat} {t0 : AV} {t1 : Int} {h : AHeap} {rR : ARes} {hR : AHeap} (hF : law05_NetTells both n t0 t1 h = some (rR, hR)) : Says Try.prog 4 [t0, .int .i64 t1] h rR hR := by
  unfold law05_NetTells at hF
  refine says_ofM (fn := Try.f4) Try.func4 (c := codeOf Try.f4) (by kernel_rfl) (by kernel_rfl) (fun w0 m0 => ?_)
  refine WR.weaken (l' := [(0, t0), (1, .int .i64 t1)]) (Fr.sub_cons (by kernel_rfl) (Fr.sub_cons (by kernel_rfl) (Fr.sub_nil _))) ?_
  refine WR.seqK (by kernel_rfl) (fun K1 n1 e1 q1 p1 => ?_)
  refine WR.region (by kernel_rfl) ?_
  replace hF := lett_some hF; obtain ⟨h_2, e3, hF⟩ := hF
  refine WLR.val (d := (some 3)) (v := (newP h)) (h' := h_2) (by kernel_rfl) (by kernel_rfl) (val_ofH e3 (by kernel_rfl)) ?_
  replace hF := lett_some hF; obtain ⟨h_4, e5, hF⟩ := hF
  refine WLR.val (d := (some 4)) (v := (newP h_2)) (h' := h_4) (by kernel_rfl) (by kernel_rfl) (val_ofH e5 (by kernel_rfl)) ?_
  refine WLR.nil (by kernel_rfl) ?_
  refine Go.weaken (l' := [(0, t0), (3, (newP h)), (4, (newP h_2))]) (Fr.sub_cons (by kernel_rfl) (Fr.sub_cons (by kernel_rfl) (Fr.sub_cons (by kernel_rfl) (Fr.sub_nil _)))) ?_
  refine n1 ?_
  refine WR.seqK (by kernel_rfl) (fun K6 n6 e6 q6 p6 => ?_)
  refine WR.seqK (by kernel_rfl) (fun K7 n7 e7 q7 p7 => ?_)
  refine WR.region (by kernel_rfl) ?_
  replace hF := callN_some hF; obtain ⟨r17, h_8, e9, hF⟩ := hF
  replace hF := obind_some hF; obtain ⟨t17, c10, hF⟩ := hF
  have c10 := avBool_some c10
  subst c10
  refine WLR.call (hc.says.ok w0) (d := (some 17)) (by kernel_rfl) (by kernel_rfl) (by kernel_rfl) e9 ?_
  replace hF := lett_some hF; obtain ⟨t18, e11, hF⟩ := hF
  refine WLR.val (d := (some 18)) (v := .bool t18) (h' := h_8) (by kernel_rfl) (by kernel_rfl) (val_of AV.bool e11 (by kernel_rfl)) ?_
  refine WLR.nil (by kernel_rfl) ?_
  refine Go.weaken (l' := [(0, t0), (3, (newP h)), (4, (newP h_2)), (18, .bool t18)]) (Fr.sub_cons (by kernel_rfl) (Fr.sub_cons (by kernel_rfl) (Fr.sub_cons (by kernel_rfl) (Fr.sub_cons (by kernel_rfl) (Fr.sub_nil _))))) ?_
  refine n7 ?_
  cases t18 with
  | true =>
    replace hF := ifB_t hF
    refine WR.cond_true (by kernel_rfl) (by kernel_rfl) ?_
    refine WR.seqK (by kernel_rfl) (fun K12 n12 e12 q12 p12 => ?_)
    refine WR.region (by kernel_rfl) ?_
    replace hF := obind_some hF; obtain ⟨h_13, e14, hF⟩ := hF
    refine WLR.eff (h' := h_13) (by kernel_rfl) (by kernel_rfl) (Eq.trans (by kernel_rfl) (store_row (P := Try.prog) (h := h_8) (t := 4) (v := (.bool false)) (by kernel_rfl) (by kernel_rfl) e14)) ?_
    refine WLR.nil (by kernel_rfl) ?_
    refine Go.weaken (l' := [(4, (newP h_2))]) (Fr.sub_cons (by kernel_rfl) (Fr.sub_nil _)) ?_
    refine n12 ?_
    refine WR.ret (by kernel_rfl) ?_
    refine q6 ?_
    refine Go.leaveK hF (fun h_15 hF => ?_)
    replace hF := obind_some hF; obtain ⟨w4, e16, hF⟩ := hF
    obtain ⟨hF, hF2⟩ := ret_inj hF; subst hF; subst hF2
    exact ret_of (rs := [.cell 4 4]) (vs := [w4]) (by kernel_rfl) (res_cell (by kernel_rfl) (load_cell (P := Try.prog) (h := h_15) (t := 4) (by kernel_rfl) e16) res_nil) (by kernel_rfl)
  | false =>
    replace hF := ifB_f hF
    refine WR.cond_false (by kernel_rfl) (by kernel_rfl) ?_
    refine WR.skip (by kernel_rfl) ?_
    refine n6 ?_
    refine WR.seqK (by kernel_rfl) (fun K17 n17 e17 q17 p17 => ?_)
    refine WR.seqK (by kernel_rfl) (fun K18 n18 e18 q18 p18 => ?_)
    refine WR.region (by kernel_rfl) ?_
    refine WLR.val (d := (some 19)) (v := t0) (h' := h_8) (by kernel_rfl) (by kernel_rfl) (by kernel_rfl) ?_
    replace hF := callN_some hF; obtain ⟨r20, h_19, e20, hF⟩ := hF
    replace hF := obind_some hF; obtain ⟨t20, c21, hF⟩ := hF
    have c21 := avBool_some c21
    subst c21
    refine WLR.call (hc.says.ok w0) (d := (some 20)) (by kernel_rfl) (by kernel_rfl) (by kernel_rfl) e20 ?_
    refine WLR.nil (by kernel_rfl) ?_
    refine Go.weaken (l' := [(0, t0), (3, (newP h)), (4, (newP h_2)), (20, .bool t20)]) (Fr.sub_cons (by kernel_rfl) (Fr.sub_cons (by kernel_rfl) (Fr.sub_cons (by kernel_rfl) (Fr.sub_cons (by kernel_rfl) (Fr.sub_nil _))))) ?_
    refine n18 ?_
    cases t20 with
    | true =>
      replace hF := ifB_t hF
      refine WR.cond_true (by kernel_rfl) (by kernel_rfl) ?_
      refine WR.seqK (by kernel_rfl) (fun K22 n22 e22 q22 p22 => ?_)
      refine WR.region (by kernel_rfl) ?_
      replace hF := obind_some hF; obtain ⟨h_23, e24, hF⟩ := hF
      refine WLR.eff (h' := h_23) (by kernel_rfl) (by kernel_rfl) (Eq.trans (by kernel_rfl) (store_row (P := Try.prog) (h := h_19) (t := 4) (v := (.bool true)) (by kernel_rfl) (by kernel_rfl) e24)) ?_
      refine WLR.nil (by kernel_rfl) ?_
      refine Go.weaken (l' := [(4, (newP h_2))]) (Fr.sub_cons (by kernel_rfl) (Fr.sub_nil _)) ?_
      refine n22 ?_
      refine WR.ret (by kernel_rfl) ?_
      refine q17 ?_
      refine Go.leaveK hF (fun h_25 hF => ?_)
      replace hF := obind_some hF; obtain ⟨w4_27, e26, hF⟩ := hF
      obtain ⟨hF, hF2⟩ := ret_inj hF; subst hF; subst hF2
      exact ret_of (rs := [.cell 4 4]) (vs := [w4_27]) (by kernel_rfl) (res_cell (by kernel_rfl) (load_cell (P := Try.prog) (h := h_25) (t := 4) (by kernel_rfl) e26) res_nil) (by kernel_rfl)
    | false =>
      replace hF := ifB_f hF
      refine WR.cond_false (by kernel_rfl) (by kernel_rfl) ?_
      refine WR.skip (by kernel_rfl) ?_
      refine n17 ?_
      refine WR.seqK (by kernel_rfl) (fun K28 n28 e28 q28 p28 => ?_)
      refine WR.region (by kernel_rfl) ?_
      replace hF := callN_some hF; obtain ⟨r21, h_29, e30, hF⟩ := hF
      refine WLR.call (hc.says.ok w0) (d := (some 21)) (by kernel_rfl) (by kernel_rfl) (by kernel_rfl) e30 ?_
      refine WLR.val (d := (some 5)) (v := r21) (h' := h_29) (by kernel_rfl) (by kernel_rfl) (by kernel_rfl) ?_
      refine WLR.nil (by kernel_rfl) ?_
      refine Go.weaken (l' := [(0, t0), (3, (newP h)), (4, (newP h_2)), (5, r21)]) (Fr.sub_cons (by kernel_rfl) (Fr.sub_cons (by kernel_rfl) (Fr.sub_cons (by kernel_rfl) (Fr.sub_cons (by kernel_rfl) (Fr.sub_nil _))))) ?_
      refine n28 ?_
      refine WR.seqK (by kernel_rfl) (fun K31 n31 e31 q31 p31 => ?_)
      refine WR.seqK (by kernel_rfl) (fun K32 n32 e32 q32 p32 => ?_)
      refine WR.region (by kernel_rfl) ?_
      refine WLR.val (d := (some 6)) (v := .int .i64 0) (h' := h_29) (by kernel_rfl) (by kernel_rfl) (by kernel_rfl) ?_
      refine WLR.nil (by kernel_rfl) ?_
      refine Go.weaken (l' := [(0, t0), (3, (newP h)), (4, (newP h_2)), (5, r21), (6, .int .i64 0)]) (Fr.sub_cons (by kernel_rfl) (Fr.sub_cons (by kernel_rfl) (Fr.sub_cons (by kernel_rfl) (Fr.sub_cons (by kernel_rfl) (Fr.sub_cons (by kernel_rfl) (Fr.sub_nil _)))))) ?_
      refine n32 ?_
      replace hF := lett_some hF; obtain ⟨k34, e34, hF⟩ := hF
      have J34 : ∀ (t5 : AV) (h_35 : AHeap), k34 t5 h_35 = some (rR, hR) → Go w0 m0 (Func.ntmps Try.f4) (K31 .normal) [(3, (newP h)), (4, (newP h_2)), (5, t5)] [] h_35 := by
        intro t5 h_35 hF
        rw [e34] at hF
        refine n31 ?_
        refine WR.seqK (by kernel_rfl) (fun K36 n36 e36 q36 p36 => ?_)
        refine WR.region (by kernel_rfl) ?_
        refine WLR.val (d := (some 40)) (v := t5) (h' := h_35) (by kernel_rfl) (by kernel_rfl) (by kernel_rfl) ?_
        replace hF := callN_some hF; obtain ⟨r41, h_37, e38, hF⟩ := hF
        refine WLR.call (hc.says.ok w0) (d := (some 41)) (by kernel_rfl) (by kernel_rfl) (by kernel_rfl) e38 ?_
        replace hF := lett_some hF; obtain ⟨h_39, e40, hF⟩ := hF
        refine WLR.val (d := (some 9)) (v := (newP h_37)) (h' := h_39) (by kernel_rfl) (by kernel_rfl) (val_ofH e40 (by kernel_rfl)) ?_
        replace hF := obind_some hF; obtain ⟨h_41, e42, hF⟩ := hF
        refine WLR.eff (h' := h_41) (by kernel_rfl) (by kernel_rfl) (Eq.trans (by kernel_rfl) (store_row (P := Try.prog) (h := h_39) (t := 27) (v := r41) (by kernel_rfl) (by kernel_rfl) e42)) ?_
        refine WLR.nil (by kernel_rfl) ?_
        refine Go.weaken (l' := [(3, (newP h)), (4, (newP h_2)), (5, t5), (9, (newP h_37))]) (Fr.sub_cons (by kernel_rfl) (Fr.sub_cons (by kernel_rfl) (Fr.sub_cons (by kernel_rfl) (Fr.sub_cons (by kernel_rfl) (Fr.sub_nil _))))) ?_
        refine n36 ?_
        refine WR.seqK (by kernel_rfl) (fun K43 n43 e43 q43 p43 => ?_)
        refine WR.region (by kernel_rfl) ?_
        refine WLR.val (d := (some 42)) (v := t5) (h' := h_41) (by kernel_rfl) (by kernel_rfl) (by kernel_rfl) ?_
        replace hF := callN_some hF; obtain ⟨r43, h_44, e45, hF⟩ := hF
        refine WLR.call (hc.says.ok w0) (d := (some 43)) (by kernel_rfl) (by kernel_rfl) (by kernel_rfl) e45 ?_
        refine WLR.val (d := (some 10)) (v := r43) (h' := h_44) (by kernel_rfl) (by kernel_rfl) (by kernel_rfl) ?_
        refine WLR.nil (by kernel_rfl) ?_
        refine Go.weaken (l' := [(3, (newP h)), (4, (newP h_2)), (5, t5), (9, (newP h_37)), (10, r43)]) (Fr.sub_cons (by kernel_rfl) (Fr.sub_cons (by kernel_rfl) (Fr.sub_cons (by kernel_rfl) (Fr.sub_cons (by kernel_rfl) (Fr.sub_cons (by kernel_rfl) (Fr.sub_nil _)))))) ?_
        refine n43 ?_
        refine WR.seqK (by kernel_rfl) (fun K46 n46 e46 q46 p46 => ?_)
        refine WR.seqK (by kernel_rfl) (fun K47 n47 e47 q47 p47 => ?_)
        refine WR.region (by kernel_rfl) ?_
        refine WLR.val (d := (some 44)) (v := r43) (h' := h_44) (by kernel_rfl) (by kernel_rfl) (by kernel_rfl) ?_
        replace hF := outK_some hF; obtain ⟨v45, h_48, e49, hF⟩ := hF
        replace hF := obind_some hF; obtain ⟨t45, c50, hF⟩ := hF
        have c50 := avBool_some c50
        subst c50
        refine WLR.val (d := (some 45)) (v := .bool t45) (h' := h_48) (by kernel_rfl) (by kernel_rfl) (Eq.trans (by kernel_rfl) e49) ?_
        refine WLR.nil (by kernel_rfl) ?_
        refine Go.weaken (l' := [(3, (newP h)), (4, (newP h_2)), (5, t5), (9, (newP h_37)), (10, r43), (45, .bool t45)]) (Fr.sub_cons (by kernel_rfl) (Fr.sub_cons (by kernel_rfl) (Fr.sub_cons (by kernel_rfl) (Fr.sub_cons (by kernel_rfl) (Fr.sub_cons (by kernel_rfl) (Fr.sub_cons (by kernel_rfl) (Fr.sub_nil _))))))) ?_
        refine n47 ?_
        cases t45 with
        | true =>
          replace hF := ifB_t hF
          refine WR.cond_true (by kernel_rfl) (by kernel_rfl) ?_
          refine WR.seqK (by kernel_rfl) (fun K51 n51 e51 q51 p51 => ?_)
          refine WR.region (by kernel_rfl) ?_
          replace hF := obind_some hF; obtain ⟨h_52, e53, hF⟩ := hF
          refine WLR.eff (h' := h_52) (by kernel_rfl) (by kernel_rfl) (Eq.trans (by kernel_rfl) (store_row (P := Try.prog) (h := h_48) (t := 4) (v := (.bool false)) (by kernel_rfl) (by kernel_rfl) e53)) ?_
          refine WLR.nil (by kernel_rfl) ?_
          refine Go.weaken (l' := [(4, (newP h_2))]) (Fr.sub_cons (by kernel_rfl) (Fr.sub_nil _)) ?_
          refine n51 ?_
          refine WR.ret (by kernel_rfl) ?_
          refine q46 ?_
          refine Go.leaveK hF (fun h_54 hF => ?_)
          replace hF := obind_some hF; obtain ⟨w4_56, e55, hF⟩ := hF
          obtain ⟨hF, hF2⟩ := ret_inj hF; subst hF; subst hF2
          exact ret_of (rs := [.cell 4 4]) (vs := [w4_56]) (by kernel_rfl) (res_cell (by kernel_rfl) (load_cell (P := Try.prog) (h := h_54) (t := 4) (by kernel_rfl) e55) res_nil) (by kernel_rfl)
        | false =>
          replace hF := ifB_f hF
          refine WR.cond_false (by kernel_rfl) (by kernel_rfl) ?_
          refine WR.skip (by kernel_rfl) ?_
          refine n46 ?_
          refine WR.seqK (by kernel_rfl) (fun K57 n57 e57 q57 p57 => ?_)
          refine WR.region (by kernel_rfl) ?_
          replace hF := lett_some hF; obtain ⟨h_58, e59, hF⟩ := hF
          refine WLR.val (d := (some 11)) (v := (newP h_48)) (h' := h_58) (by kernel_rfl) (by kernel_rfl) (val_ofH e59 (by kernel_rfl)) ?_
          replace hF := obind_some hF; obtain ⟨h_60, e61, hF⟩ := hF
          refine WLR.eff (h' := h_60) (by kernel_rfl) (by kernel_rfl) (Eq.trans (by kernel_rfl) (store_row (P := Try.prog) (h := h_58) (t := 3) (v := (.int .i64 0)) (by kernel_rfl) (by kernel_rfl) e61)) ?_
          refine WLR.nil (by kernel_rfl) ?_
          refine Go.weaken (l' := [(3, (newP h)), (4, (newP h_2)), (5, t5), (9, (newP h_37)), (10, r43), (11, (newP h_48))]) (Fr.sub_cons (by kernel_rfl) (Fr.sub_cons (by kernel_rfl) (Fr.sub_cons (by kernel_rfl) (Fr.sub_cons (by kernel_rfl) (Fr.sub_cons (by kernel_rfl) (Fr.sub_cons (by kernel_rfl) (Fr.sub_nil _))))))) ?_
          refine n57 ?_
          refine WR.seqK (by kernel_rfl) (fun K62 n62 e62 q62 p62 => ?_)
          refine WR.seqK (by kernel_rfl) (fun K63 n63 e63 q63 p63 => ?_)
          refine WR.region (by kernel_rfl) ?_
          refine WLR.val (d := (some 46)) (v := r43) (h' := h_60) (by kernel_rfl) (by kernel_rfl) (by kernel_rfl) ?_
          refine WLR.nil (by kernel_rfl) ?_
          refine Go.weaken (l' := [(3, (newP h)), (4, (newP h_2)), (5, t5), (9, (newP h_37)), (10, r43), (11, (newP h_48)), (46, r43)]) (Fr.sub_cons (by kernel_rfl) (Fr.sub_cons (by kernel_rfl) (Fr.sub_cons (by kernel_rfl) (Fr.sub_cons (by kernel_rfl) (Fr.sub_cons (by kernel_rfl) (Fr.sub_cons (by kernel_rfl) (Fr.sub_cons (by kernel_rfl) (Fr.sub_nil _)))))))) ?_
          refine n63 ?_
          refine WR.blockK (by kernel_rfl) (fun K64 n64 s64 o64 q64 p64 => ?_)
          refine WR.rng hc hF (fun h_65 hF => ?_) (fun h_66 hF => ?_) (fun id h_67 hF => ?_)
          · skip
            refine n64 ?_
            refine n62 ?_
            refine WR.seqK (by kernel_rfl) (fun K68 n68 e68 q68 p68 => ?_)
            refine WR.region (by kernel_rfl) ?_
            replace hF := lett_some hF; obtain ⟨h_69, e70, hF⟩ := hF
            refine WLR.val (d := (some 14)) (v := (newP h_65)) (h' := h_69) (by kernel_rfl) (by kernel_rfl) (val_ofH e70 (by kernel_rfl)) ?_
            replace hF := obind_some hF; obtain ⟨h_71, e72, hF⟩ := hF
            refine WLR.eff (h' := h_71) (by kernel_rfl) (by kernel_rfl) (Eq.trans (by kernel_rfl) (store_row (P := Try.prog) (h := h_69) (t := 3) (v := (.int .i64 0)) (by kernel_rfl) (by kernel_rfl) e72)) ?_
            refine WLR.nil (by kernel_rfl) ?_
            refine Go.weaken (l' := [(3, (newP h)), (4, (newP h_2)), (5, t5), (9, (newP h_37)), (10, r43), (11, (newP h_48)), (14, (newP h_65))]) (Fr.sub_cons (by kernel_rfl) (Fr.sub_cons (by kernel_rfl) (Fr.sub_cons (by kernel_rfl) (Fr.sub_cons (by kernel_rfl) (Fr.sub_cons (by kernel_rfl) (Fr.sub_cons (by kernel_rfl) (Fr.sub_cons (by kernel_rfl) (Fr.sub_nil _)))))))) ?_
            refine n68 ?_
            refine WR.seqK (by kernel_rfl) (fun K73 n73 e73 q73 p73 => ?_)
            refine WR.seqK (by kernel_rfl) (fun K74 n74 e74 q74 p74 => ?_)
            refine WR.region (by kernel_rfl) ?_
            refine WLR.val (d := (some 69)) (v := r43) (h' := h_71) (by kernel_rfl) (by kernel_rfl) (by kernel_rfl) ?_
            refine WLR.nil (by kernel_rfl) ?_
            refine Go.weaken (l' := [(3, (newP h)), (4, (newP h_2)), (5, t5), (9, (newP h_37)), (11, (newP h_48)), (14, (newP h_65)), (69, r43)]) (Fr.sub_cons (by kernel_rfl) (Fr.sub_cons (by kernel_rfl) (Fr.sub_cons (by kernel_rfl) (Fr.sub_cons (by kernel_rfl) (Fr.sub_cons (by kernel_rfl) (Fr.sub_cons (by kernel_rfl) (Fr.sub_cons (by kernel_rfl) (Fr.sub_nil _)))))))) ?_
            refine n74 ?_
            replace hF := lett_some hF; obtain ⟨k76, e76, hF⟩ := hF
            have J76 : ∀ (d : DefT) (h_77 : AHeap), k76 d h_77 = some (rR, hR) → Go w0 m0 (Func.ntmps Try.f4) (K73 .normal) [(3, (newP h)), (4, (newP h_2)), (5, t5), (9, (newP h_37)), (11, (newP h_48)), (14, (newP h_65))] d h_77 := by
              intro d h_77 hF
              rw [e76] at hF
              refine n73 ?_
              refine WR.seqK (by kernel_rfl) (fun K78 n78 e78 q78 p78 => ?_)
              refine WR.seqK (by kernel_rfl) (fun K79 n79 e79 q79 p79 => ?_)
              refine WR.region (by kernel_rfl) ?_
              replace hF := obind_some hF; obtain ⟨v77, e80, hF⟩ := hF
              replace hF := obind_some hF; obtain ⟨t77, c81, hF⟩ := hF
              have c81 := avInt_some c81
              subst c81
              refine WLR.val (d := (some 77)) (v := .int .i64 t77) (h' := h_77) (by kernel_rfl) (by kernel_rfl) (Eq.trans (by kernel_rfl) (load_cell (P := Try.prog) (h := h_77) (t := 3) (by kernel_rfl) e80)) ?_
              replace hF := obind_some hF; obtain ⟨v78, e82, hF⟩ := hF
              refine WLR.val (d := (some 78)) (v := v78) (h' := h_77) (by kernel_rfl) (by kernel_rfl) (Eq.trans (by kernel_rfl) (load_cell (P := Try.prog) (h := h_77) (t := 27) (by kernel_rfl) e82)) ?_
              replace hF := obind_some hF; obtain ⟨t79, e83, hF⟩ := hF
              refine WLR.val (d := (some 79)) (v := .int .i64 t79) (h' := h_77) (by kernel_rfl) (by kernel_rfl) (Eq.trans (by kernel_rfl) (len_row (P := Try.prog) (h := h_77) (t := 27) (e' := 32) (by kernel_rfl) e83)) ?_
              replace hF := lett_some hF; obtain ⟨t80, e84, hF⟩ := hF
              refine WLR.val (d := (some 80)) (v := .bool t80) (h' := h_77) (by kernel_rfl) (by kernel_rfl) (val_of AV.bool e84 (by kernel_rfl)) ?_
              refine WLR.val (d := (some 81)) (v := .bool t80) (h' := h_77) (by kernel_rfl) (by kernel_rfl) (by kernel_rfl) ?_
              replace hF := lett_some hF; obtain ⟨j86, e86, hF⟩ := hF
              have J87 : ∀ (t86 : Bool) (h_85 : AHeap), j86 t86 h_85 = some (rR, hR) → WLR Try.prog w0 m0 (Func.ntmps Try.f4) none 0 (Code.ops (Code.p1 (Code.p1 (Code.p2 (Code.p2 (Code.p2 (Code.p2 (Code.p2 (Code.p2 (Code.p2 (Code.p2 (Code.p2 (Code.p2 (Code.p2 (Code.p2 (codeOf Try.f4)))))))))))))))) 10 K79 [(3, (newP h)), (4, (newP h_2)), (5, t5), (9, (newP h_37)), (14, (newP h_65)), (86, .bool t86)] d h_85 := by
                intro t86 h_85 hF
                rw [e86] at hF
                refine WLR.val (d := (some 87)) (v := .bool t86) (h' := h_85) (by kernel_rfl) (by kernel_rfl) (by kernel_rfl) ?_
                replace hF := lett_some hF; obtain ⟨j100, e89, hF⟩ := hF
                have J90 : ∀ (t100 : Bool) (h_88 : AHeap), j100 t100 h_88 = some (rR, hR) → WLR Try.prog w0 m0 (Func.ntmps Try.f4) none 0 (Code.ops (Code.p1 (Code.p1 (Code.p2 (Code.p2 (Code.p2 (Code.p2 (Code.p2 (Code.p2 (Code.p2 (Code.p2 (Code.p2 (Code.p2 (Code.p2 (Code.p2 (codeOf Try.f4)))))))))))))))) 24 K79 [(4, (newP h_2)), (5, t5), (9, (newP h_37)), (100, .bool t100)] d h_88 := by
                  intro t100 h_88 hF
                  rw [e89] at hF
                  refine WLR.nil (by kernel_rfl) ?_
                  refine Go.weaken (l' := [(4, (newP h_2)), (5, t5), (9, (newP h_37)), (100, .bool t100)]) (Fr.sub_cons (by kernel_rfl) (Fr.sub_cons (by kernel_rfl) (Fr.sub_cons (by kernel_rfl) (Fr.sub_cons (by kernel_rfl) (Fr.sub_nil _))))) ?_
                  refine n79 ?_
                  cases t100 with
                  | true =>
                    replace hF := ifB_t hF
                    refine WR.cond_true (by kernel_rfl) (by kernel_rfl) ?_
                    refine WR.seqK (by kernel_rfl) (fun K91 n91 e91 q91 p91 => ?_)
                    refine WR.region (by kernel_rfl) ?_
                    replace hF := obind_some hF; obtain ⟨h_92, e93, hF⟩ := hF
                    refine WLR.eff (h' := h_92) (by kernel_rfl) (by kernel_rfl) (Eq.trans (by kernel_rfl) (store_row (P := Try.prog) (h := h_88) (t := 4) (v := (.bool false)) (by kernel_rfl) (by kernel_rfl) e93)) ?_
                    refine WLR.nil (by kernel_rfl) ?_
                    refine Go.weaken (l' := [(4, (newP h_2))]) (Fr.sub_cons (by kernel_rfl) (Fr.sub_nil _)) ?_
                    refine n91 ?_
                    refine WR.ret (by kernel_rfl) ?_
                    refine q78 ?_
                    refine Go.leaveK hF (fun h_94 hF => ?_)
                    replace hF := obind_some hF; obtain ⟨w4_96, e95, hF⟩ := hF
                    obtain ⟨hF, hF2⟩ := ret_inj hF; subst hF; subst hF2
                    exact ret_of (rs := [.cell 4 4]) (vs := [w4_96]) (by kernel_rfl) (res_cell (by kernel_rfl) (load_cell (P := Try.prog) (h := h_94) (t := 4) (by kernel_rfl) e95) res_nil) (by kernel_rfl)
                  | false =>
                    replace hF := ifB_f hF
                    refine WR.cond_false (by kernel_rfl) (by kernel_rfl) ?_
                    refine WR.skip (by kernel_rfl) ?_
                    refine n78 ?_
                    refine WR.seqK (by kernel_rfl) (fun K97 n97 e97 q97 p97 => ?_)
                    refine WR.region (by kernel_rfl) ?_
                    replace hF := outK_some hF; obtain ⟨v101, h_98, e99, hF⟩ := hF
                    refine WLR.val (d := (some 101)) (v := v101) (h' := h_98) (by kernel_rfl) (by kernel_rfl) (Eq.trans (by kernel_rfl) e99) ?_
                    replace hF := obind_some hF; obtain ⟨v102, e100, hF⟩ := hF
                    refine WLR.val (d := (some 102)) (v := v102) (h' := h_98) (by kernel_rfl) (by kernel_rfl) (Eq.trans (by kernel_rfl) (load_cell (P := Try.prog) (h := h_98) (t := 27) (by kernel_rfl) e100)) ?_
                    replace hF := outK_some hF; obtain ⟨v103, h_101, e102, hF⟩ := hF
                    refine WLR.val (d := (some 103)) (v := v103) (h' := h_101) (by kernel_rfl) (by kernel_rfl) (Eq.trans (by kernel_rfl) e102) ?_
                    refine WLR.val (d := (some 15)) (v := v103) (h' := h_101) (by kernel_rfl) (by kernel_rfl) (by kernel_rfl) ?_
                    refine WLR.nil (by kernel_rfl) ?_
                    refine Go.weaken (l' := [(4, (newP h_2)), (5, t5), (9, (newP h_37)), (15, v103)]) (Fr.sub_cons (by kernel_rfl) (Fr.sub_cons (by kernel_rfl) (Fr.sub_cons (by kernel_rfl) (Fr.sub_cons (by kernel_rfl) (Fr.sub_nil _))))) ?_
                    refine n97 ?_
                    refine WR.seqK (by kernel_rfl) (fun K103 n103 e103 q103 p103 => ?_)
                    refine WR.seqK (by kernel_rfl) (fun K104 n104 e104 q104 p104 => ?_)
                    refine WR.region (by kernel_rfl) ?_
                    refine WLR.val (d := (some 16)) (v := .int .i64 0) (h' := h_101) (by kernel_rfl) (by kernel_rfl) (by kernel_rfl) ?_
                    refine WLR.nil (by kernel_rfl) ?_
                    refine Go.weaken (l' := [(4, (newP h_2)), (5, t5), (9, (newP h_37)), (15, v103), (16, .int .i64 0)]) (Fr.sub_cons (by kernel_rfl) (Fr.sub_cons (by kernel_rfl) (Fr.sub_cons (by kernel_rfl) (Fr.sub_cons (by kernel_rfl) (Fr.sub_cons (by kernel_rfl) (Fr.sub_nil _)))))) ?_
                    refine n104 ?_
                    replace hF := lett_some hF; obtain ⟨k106, e106, hF⟩ := hF
                    have J106 : ∀  (h_107 : AHeap), k106 h_107 = some (rR, hR) → Go w0 m0 (Func.ntmps Try.f4) (K103 .normal) [(4, (newP h_2)), (5, t5), (15, v103)] d h_107 := by
                      intro  h_107 hF
                      rw [e106] at hF
                      refine n103 ?_
                      refine WR.seqK (by kernel_rfl) (fun K108 n108 e108 q108 p108 => ?_)
                      refine WR.region (by kernel_rfl) ?_
                      refine WLR.val (d := (some 114)) (v := t5) (h' := h_107) (by kernel_rfl) (by kernel_rfl) (by kernel_rfl) ?_
                      replace hF := callN_some hF; obtain ⟨r115, h_109, e110, hF⟩ := hF
                      refine WLR.call (hc.says.ok w0) (d := (some 115)) (by kernel_rfl) (by kernel_rfl) (by kernel_rfl) e110 ?_
                      refine WLR.val (d := (some 116)) (v := v103) (h' := h_109) (by kernel_rfl) (by kernel_rfl) (by kernel_rfl) ?_
                      replace hF := callN_some hF; obtain ⟨r117, h_111, e112, hF⟩ := hF
                      replace hF := obind_some hF; obtain ⟨t117, c113, hF⟩ := hF
                      have c113 := avBool_some c113
                      subst c113
                      refine WLR.call (hc.says.ok w0) (d := (some 117)) (by kernel_rfl) (by kernel_rfl) (by kernel_rfl) e112 ?_
                      replace hF := obind_some hF; obtain ⟨h_114, e115, hF⟩ := hF
                      refine WLR.eff (h' := h_114) (by kernel_rfl) (by kernel_rfl) (Eq.trans (by kernel_rfl) (store_row (P := Try.prog) (h := h_111) (t := 4) (v := (.bool t117)) (by kernel_rfl) (by kernel_rfl) e115)) ?_
                      refine WLR.nil (by kernel_rfl) ?_
                      refine Go.weaken (l' := [(4, (newP h_2))]) (Fr.sub_cons (by kernel_rfl) (Fr.sub_nil _)) ?_
                      refine n108 ?_
                      refine WR.ret (by kernel_rfl) ?_
                      refine Go.leaveK hF (fun h_116 hF => ?_)
                      replace hF := obind_some hF; obtain ⟨w4_118, e117, hF⟩ := hF
                      obtain ⟨hF, hF2⟩ := ret_inj hF; subst hF; subst hF2
                      exact ret_of (rs := [.cell 4 4]) (vs := [w4_118]) (by kernel_rfl) (res_cell (by kernel_rfl) (load_cell (P := Try.prog) (h := h_116) (t := 4) (by kernel_rfl) e117) res_nil) (by kernel_rfl)
                    refine WR.blockK (by kernel_rfl) (fun K105 n105 s105 o105 q105 p105 => ?_)
                    refine WR.loopK (by kernel_rfl) (fun I119 K119 b119 n119 e119 q119 p119 => ?_)
                    have L119 : ∀ (m : Nat) (t16 : Int) (h_120 : AHeap), law05_NetTells_L0 h_37 k106 m t16 h_120 = some (rR, hR) → Go w0 m0 (Func.ntmps Try.f4) I119 [(4, (newP h_2)), (5, t5), (9, (newP h_37)), (15, v103), (16, .int .i64 t16)] d h_120 := by
                      intro m
                      induction m with
                      | zero => intro t16 h_120 hF; cases hF
                      | succ m ih119 =>
                        intro t16 h_120 hF
                        rw [law05_NetTells_L0_s] at hF; unfold law05_NetTells_L0b at hF
                        refine b119 ?_
                        refine WR.seqK (by kernel_rfl) (fun K121 n121 e121 q121 p121 => ?_)
                        refine WR.seqK (by kernel_rfl) (fun K122 n122 e122 q122 p122 => ?_)
                        refine WR.region (by kernel_rfl) ?_
                        refine WLR.val (d := (some 104)) (v := .int .i64 t16) (h' := h_120) (by kernel_rfl) (by kernel_rfl) (by kernel_rfl) ?_
                        replace hF := obind_some hF; obtain ⟨v105, e123, hF⟩ := hF
                        refine WLR.val (d := (some 105)) (v := v105) (h' := h_120) (by kernel_rfl) (by kernel_rfl) (Eq.trans (by kernel_rfl) (load_cell (P := Try.prog) (h := h_120) (t := 27) (by kernel_rfl) e123)) ?_
                        replace hF := obind_some hF; obtain ⟨t106, e124, hF⟩ := hF
                        refine WLR.val (d := (some 106)) (v := .int .i64 t106) (h' := h_120) (by kernel_rfl) (by kernel_rfl) (Eq.trans (by kernel_rfl) (len_row (P := Try.prog) (h := h_120) (t := 27) (e' := 32) (by kernel_rfl) e124)) ?_
                        replace hF := lett_some hF; obtain ⟨t107, e125, hF⟩ := hF
                        refine WLR.val (d := (some 107)) (v := .bool t107) (h' := h_120) (by kernel_rfl) (by kernel_rfl) (val_of AV.bool e125 (by kernel_rfl)) ?_
                        refine WLR.nil (by kernel_rfl) ?_
                        refine Go.weaken (l' := [(4, (newP h_2)), (5, t5), (9, (newP h_37)), (15, v103), (16, .int .i64 t16), (107, .bool t107)]) (Fr.sub_cons (by kernel_rfl) (Fr.sub_cons (by kernel_rfl) (Fr.sub_cons (by kernel_rfl) (Fr.sub_cons (by kernel_rfl) (Fr.sub_cons (by kernel_rfl) (Fr.sub_cons (by kernel_rfl) (Fr.sub_nil _))))))) ?_
                        refine n122 ?_
                        cases t107 with
                        | true =>
                          replace hF := ifB_t hF
                          refine WR.cond_true (by kernel_rfl) (by kernel_rfl) ?_
                          refine WR.skip (by kernel_rfl) ?_
                          refine n121 ?_
                          refine WR.seqK (by kernel_rfl) (fun K126 n126 e126 q126 p126 => ?_)
                          refine WR.blockK (by kernel_rfl) (fun K127 n127 s127 o127 q127 p127 => ?_)
                          refine WR.region (by kernel_rfl) ?_
                          replace hF := obind_some hF; obtain ⟨v110, e128, hF⟩ := hF
                          refine WLR.val (d := (some 110)) (v := v110) (h' := h_120) (by kernel_rfl) (by kernel_rfl) (Eq.trans (by kernel_rfl) (load_cell (P := Try.prog) (h := h_120) (t := 27) (by kernel_rfl) e128)) ?_
                          refine WLR.val (d := (some 111)) (v := .int .i64 t16) (h' := h_120) (by kernel_rfl) (by kernel_rfl) (by kernel_rfl) ?_
                          refine WLR.val (d := (some 112)) (v := .agg ([.int .i64 (-1), .int .i64 0, .int .i64 0, .str 0 0] : List AV)) (h' := h_120) (by kernel_rfl) (by kernel_rfl) (by kernel_rfl) ?_
                          replace hF := obind_some hF; obtain ⟨t113, e129, hF⟩ := hF
                          refine WLR.val (d := (some 113)) (v := t113) (h' := h_120) (by kernel_rfl) (by kernel_rfl) (Eq.trans (by kernel_rfl) (index_row (P := Try.prog) (h := h_120) (t := 27) (e' := 32) (k := .i64) (by kernel_rfl) (by kernel_rfl) (by kernel_rfl) e129)) ?_
                          replace hF := obind_some hF; obtain ⟨h_130, e131, hF⟩ := hF
                          refine WLR.eff (h' := h_130) (by kernel_rfl) (by kernel_rfl) (Eq.trans (by kernel_rfl) (store_row (P := Try.prog) (h := h_120) (t := 32) (v := (.agg ([.int .i64 (-1), .int .i64 0, .int .i64 0, .str 0 0] : List AV))) (by kernel_rfl) (by kernel_rfl) e131)) ?_
                          refine WLR.nil (by kernel_rfl) ?_
                          refine Go.weaken (l' := [(4, (newP h_2)), (5, t5), (9, (newP h_37)), (15, v103), (16, .int .i64 t16)]) (Fr.sub_cons (by kernel_rfl) (Fr.sub_cons (by kernel_rfl) (Fr.sub_cons (by kernel_rfl) (Fr.sub_cons (by kernel_rfl) (Fr.sub_cons (by kernel_rfl) (Fr.sub_nil _)))))) ?_
                          refine n127 ?_
                          refine n126 ?_
                          refine WR.region (by kernel_rfl) ?_
                          refine WLR.val (d := (some 108)) (v := .int .i64 t16) (h' := h_130) (by kernel_rfl) (by kernel_rfl) (by kernel_rfl) ?_
                          replace hF := lett_some hF; obtain ⟨t109, e132, hF⟩ := hF
                          refine WLR.val (d := (some 109)) (v := .int .i64 t109) (h' := h_130) (by kernel_rfl) (by kernel_rfl) (val_of (AV.int .i64) e132 (by kernel_rfl)) ?_
                          refine WLR.val (d := (some 16)) (v := .int .i64 t109) (h' := h_130) (by kernel_rfl) (by kernel_rfl) (by kernel_rfl) ?_
                          refine WLR.nil (by kernel_rfl) ?_
                          refine Go.weaken (l' := [(4, (newP h_2)), (5, t5), (9, (newP h_37)), (15, v103), (16, .int .i64 t109)]) (Fr.sub_cons (by kernel_rfl) (Fr.sub_cons (by kernel_rfl) (Fr.sub_cons (by kernel_rfl) (Fr.sub_cons (by kernel_rfl) (Fr.sub_cons (by kernel_rfl) (Fr.sub_nil _)))))) ?_
                          refine n119 ?_
                          exact Go.weaken (Fr.sub_cons (by kernel_rfl) (Fr.sub_cons (by kernel_rfl) (Fr.sub_cons (by kernel_rfl) (Fr.sub_cons (by kernel_rfl) (Fr.sub_cons (by kernel_rfl) (Fr.sub_nil _)))))) (ih119 _ _ hF)
                        | false =>
                          replace hF := ifB_f hF
                          refine WR.cond_false (by kernel_rfl) (by kernel_rfl) ?_
                          refine WR.exit (by kernel_rfl) ?_
                          refine e121 ?_
                          refine e119 ?_
                          refine s105 (by kernel_rfl) ?_
                          exact Go.weaken (Fr.sub_cons (by kernel_rfl) (Fr.sub_cons (by kernel_rfl) (Fr.sub_cons (by kernel_rfl) (Fr.sub_nil _)))) (J106 _ hF)
                    exact Go.weaken (Fr.sub_cons (by kernel_rfl) (Fr.sub_cons (by kernel_rfl) (Fr.sub_cons (by kernel_rfl) (Fr.sub_cons (by kernel_rfl) (Fr.sub_cons (by kernel_rfl) (Fr.sub_nil _)))))) (L119 _ _ _ hF)
                cases t86 with
                | true =>
                  replace hF := ifB_t hF
                  refine WLR.not (d := (some 88)) (by kernel_rfl) (by kernel_rfl) ?_
                  refine WLR.not (d := (some 89)) (by kernel_rfl) (by kernel_rfl) ?_
                  refine WLR.not (d := (some 90)) (by kernel_rfl) (by kernel_rfl) ?_
                  refine WLR.not (d := (some 91)) (by kernel_rfl) (by kernel_rfl) ?_
                  refine WLR.not (d := (some 92)) (by kernel_rfl) (by kernel_rfl) ?_
                  refine WLR.not (d := (some 93)) (by kernel_rfl) (by kernel_rfl) ?_
                  refine WLR.not (d := (some 94)) (by kernel_rfl) (by kernel_rfl) ?_
                  refine WLR.not (d := (some 95)) (by kernel_rfl) (by kernel_rfl) ?_
                  refine WLR.not (d := (some 96)) (by kernel_rfl) (by kernel_rfl) ?_
                  refine WLR.not (d := (some 97)) (by kernel_rfl) (by kernel_rfl) ?_
                  refine WLR.not (d := (some 98)) (by kernel_rfl) (by kernel_rfl) ?_
                  refine WLR.not (d := (some 99)) (by kernel_rfl) (by kernel_rfl) ?_
                  refine WLR.val (d := (some 100)) (v := .bool true) (h' := h_85) (by kernel_rfl) (by kernel_rfl) (by kernel_rfl) ?_
                  exact WLR.weaken (Fr.sub_cons (by kernel_rfl) (Fr.sub_cons (by kernel_rfl) (Fr.sub_cons (by kernel_rfl) (Fr.sub_cons (by kernel_rfl) (Fr.sub_nil _))))) (J90 _ _ hF)
                | false =>
                  replace hF := ifB_f hF
                  replace hF := obind_some hF; obtain ⟨v88, e133, hF⟩ := hF
                  refine WLR.val (d := (some 88)) (v := v88) (h' := h_85) (by kernel_rfl) (by kernel_rfl) (Eq.trans (by kernel_rfl) (load_cell (P := Try.prog) (h := h_85) (t := 27) (by kernel_rfl) e133)) ?_
                  replace hF := obind_some hF; obtain ⟨t89, e134, hF⟩ := hF
                  refine WLR.val (d := (some 89)) (v := .int .i64 t89) (h' := h_85) (by kernel_rfl) (by kernel_rfl) (Eq.trans (by kernel_rfl) (len_row (P := Try.prog) (h := h_85) (t := 27) (e' := 32) (by kernel_rfl) e134)) ?_
                  replace hF := lett_some hF; obtain ⟨t90, e135, hF⟩ := hF
                  refine WLR.val (d := (some 90)) (v := .bool t90) (h' := h_85) (by kernel_rfl) (by kernel_rfl) (val_of AV.bool e135 (by kernel_rfl)) ?_
                  refine WLR.val (d := (some 91)) (v := .bool t90) (h' := h_85) (by kernel_rfl) (by kernel_rfl) (by kernel_rfl) ?_
                  replace hF := lett_some hF; obtain ⟨j99, e137, hF⟩ := hF
                  have J138 : ∀ (t99 : Bool) (h_136 : AHeap), j99 t99 h_136 = some (rR, hR) → WLR Try.prog w0 m0 (Func.ntmps Try.f4) none 0 (Code.ops (Code.p1 (Code.p1 (Code.p2 (Code.p2 (Code.p2 (Code.p2 (Code.p2 (Code.p2 (Code.p2 (Code.p2 (Code.p2 (Code.p2 (Code.p2 (Code.p2 (codeOf Try.f4)))))))))))))))) 23 K79 [(4, (newP h_2)), (5, t5), (9, (newP h_37)), (87, .bool false), (99, .bool t99)] d h_136 := by
                    intro t99 h_136 hF
                    rw [e137] at hF
                    refine WLR.val (d := (some 100)) (v := .bool t99) (h' := h_136) (by kernel_rfl) (by kernel_rfl) (by kernel_rfl) ?_
                    exact WLR.weaken (Fr.sub_cons (by kernel_rfl) (Fr.sub_cons (by kernel_rfl) (Fr.sub_cons (by kernel_rfl) (Fr.sub_cons (by kernel_rfl) (Fr.sub_nil _))))) (J90 _ _ hF)
                  cases t90 with
                  | true =>
                    replace hF := ifB_t hF
                    replace hF := obind_some hF; obtain ⟨v92, e139, hF⟩ := hF
                    replace hF := obind_some hF; obtain ⟨t92, c140, hF⟩ := hF
                    have c140 := avInt_some c140
                    subst c140
                    refine WLR.val (d := (some 92)) (v := .int .i64 t92) (h' := h_85) (by kernel_rfl) (by kernel_rfl) (Eq.trans (by kernel_rfl) (load_cell (P := Try.prog) (h := h_85) (t := 3) (by kernel_rfl) e139)) ?_
                    replace hF := obind_some hF; obtain ⟨v93, e141, hF⟩ := hF
                    replace hF := obind_some hF; obtain ⟨t93, c142, hF⟩ := hF
                    have c142 := avInt_some c142
                    subst c142
                    refine WLR.val (d := (some 93)) (v := .int .i64 t93) (h' := h_85) (by kernel_rfl) (by kernel_rfl) (Eq.trans (by kernel_rfl) (load_cell (P := Try.prog) (h := h_85) (t := 3) (by kernel_rfl) e141)) ?_
                    replace hF := lett_some hF; obtain ⟨t94, e143, hF⟩ := hF
                    refine WLR.val (d := (some 94)) (v := .int .i64 t94) (h' := h_85) (by kernel_rfl) (by kernel_rfl) (val_of (AV.int .i64) e143 (by kernel_rfl)) ?_
                    replace hF := obind_some hF; obtain ⟨v95, e144, hF⟩ := hF
                    refine WLR.val (d := (some 95)) (v := v95) (h' := h_85) (by kernel_rfl) (by kernel_rfl) (Eq.trans (by kernel_rfl) (load_cell (P := Try.prog) (h := h_85) (t := 27) (by kernel_rfl) e144)) ?_
                    replace hF := obind_some hF; obtain ⟨t96, e145, hF⟩ := hF
                    refine WLR.val (d := (some 96)) (v := .int .i64 t96) (h' := h_85) (by kernel_rfl) (by kernel_rfl) (Eq.trans (by kernel_rfl) (len_row (P := Try.prog) (h := h_85) (t := 27) (e' := 32) (by kernel_rfl) e145)) ?_
                    replace hF := lett_some hF; obtain ⟨t97, e146, hF⟩ := hF
                    refine WLR.val (d := (some 97)) (v := .int .i64 t97) (h' := h_85) (by kernel_rfl) (by kernel_rfl) (val_of (AV.int .i64) e146 (by kernel_rfl)) ?_
                    replace hF := lett_some hF; obtain ⟨t98, e147, hF⟩ := hF
                    refine WLR.val (d := (some 98)) (v := .bool t98) (h' := h_85) (by kernel_rfl) (by kernel_rfl) (val_of AV.bool e147 (by kernel_rfl)) ?_
                    refine WLR.val (d := (some 99)) (v := .bool t98) (h' := h_85) (by kernel_rfl) (by kernel_rfl) (by kernel_rfl) ?_
                    exact WLR.weaken (Fr.sub_cons (by kernel_rfl) (Fr.sub_cons (by kernel_rfl) (Fr.sub_cons (by kernel_rfl) (Fr.sub_cons (by kernel_rfl) (Fr.sub_cons (by kernel_rfl) (Fr.sub_nil _)))))) (J138 _ _ hF)
                  | false =>
                    replace hF := ifB_f hF
                    refine WLR.not (d := (some 92)) (by kernel_rfl) (by kernel_rfl) ?_
                    refine WLR.not (d := (some 93)) (by kernel_rfl) (by kernel_rfl) ?_
                    refine WLR.not (d := (some 94)) (by kernel_rfl) (by kernel_rfl) ?_
                    refine WLR.not (d := (some 95)) (by kernel_rfl) (by kernel_rfl) ?_
                    refine WLR.not (d := (some 96)) (by kernel_rfl) (by kernel_rfl) ?_
                    refine WLR.not (d := (some 97)) (by kernel_rfl) (by kernel_rfl) ?_
                    refine WLR.not (d := (some 98)) (by kernel_rfl) (by kernel_rfl) ?_
                    refine WLR.val (d := (some 99)) (v := .bool false) (h' := h_85) (by kernel_rfl) (by kernel_rfl) (by kernel_rfl) ?_
                    exact WLR.weaken (Fr.sub_cons (by kernel_rfl) (Fr.sub_cons (by kernel_rfl) (Fr.sub_cons (by kernel_rfl) (Fr.sub_cons (by kernel_rfl) (Fr.sub_cons (by kernel_rfl) (Fr.sub_nil _)))))) (J138 _ _ hF)
              cases t80 with
              | true =>
                replace hF := ifB_t hF
                refine WLR.not (d := (some 82)) (by kernel_rfl) (by kernel_rfl) ?_
                refine WLR.not (d := (some 83)) (by kernel_rfl) (by kernel_rfl) ?_
                refine WLR.not (d := (some 84)) (by kernel_rfl) (by kernel_rfl) ?_
                refine WLR.not (d := (some 85)) (by kernel_rfl) (by kernel_rfl) ?_
                refine WLR.val (d := (some 86)) (v := .bool true) (h' := h_77) (by kernel_rfl) (by kernel_rfl) (by kernel_rfl) ?_
                exact WLR.weaken (Fr.sub_cons (by kernel_rfl) (Fr.sub_cons (by kernel_rfl) (Fr.sub_cons (by kernel_rfl) (Fr.sub_cons (by kernel_rfl) (Fr.sub_cons (by kernel_rfl) (Fr.sub_cons (by kernel_rfl) (Fr.sub_nil _))))))) (J87 _ _ hF)
              | false =>
                replace hF := ifB_f hF
                replace hF := obind_some hF; obtain ⟨v82, e148, hF⟩ := hF
                replace hF := obind_some hF; obtain ⟨t82, c149, hF⟩ := hF
                have c149 := avInt_some c149
                subst c149
                refine WLR.val (d := (some 82)) (v := .int .i64 t82) (h' := h_77) (by kernel_rfl) (by kernel_rfl) (Eq.trans (by kernel_rfl) (load_cell (P := Try.prog) (h := h_77) (t := 3) (by kernel_rfl) e148)) ?_
                replace hF := obind_some hF; obtain ⟨v83, e150, hF⟩ := hF
                refine WLR.val (d := (some 83)) (v := v83) (h' := h_77) (by kernel_rfl) (by kernel_rfl) (Eq.trans (by kernel_rfl) (load_cell (P := Try.prog) (h := h_77) (t := 27) (by kernel_rfl) e150)) ?_
                replace hF := obind_some hF; obtain ⟨t84, e151, hF⟩ := hF
                refine WLR.val (d := (some 84)) (v := .int .i64 t84) (h' := h_77) (by kernel_rfl) (by kernel_rfl) (Eq.trans (by kernel_rfl) (len_row (P := Try.prog) (h := h_77) (t := 27) (e' := 32) (by kernel_rfl) e151)) ?_
                replace hF := lett_some hF; obtain ⟨t85, e152, hF⟩ := hF
                refine WLR.val (d := (some 85)) (v := .bool t85) (h' := h_77) (by kernel_rfl) (by kernel_rfl) (val_of AV.bool e152 (by kernel_rfl)) ?_
                refine WLR.val (d := (some 86)) (v := .bool t85) (h' := h_77) (by kernel_rfl) (by kernel_rfl) (by kernel_rfl) ?_
                exact WLR.weaken (Fr.sub_cons (by kernel_rfl) (Fr.sub_cons (by kernel_rfl) (Fr.sub_cons (by kernel_rfl) (Fr.sub_cons (by kernel_rfl) (Fr.sub_cons (by kernel_rfl) (Fr.sub_cons (by kernel_rfl) (Fr.sub_nil _))))))) (J87 _ _ hF)
            refine WR.blockK (by kernel_rfl) (fun K75 n75 s75 o75 q75 p75 => ?_)
            refine WR.rng hc hF (fun h_153 hF => ?_) (fun h_154 hF => ?_) (fun id h_155 hF => ?_)
            · skip
              refine n75 ?_
              exact Go.weaken (Fr.sub_cons (by kernel_rfl) (Fr.sub_cons (by kernel_rfl) (Fr.sub_cons (by kernel_rfl) (Fr.sub_cons (by kernel_rfl) (Fr.sub_cons (by kernel_rfl) (Fr.sub_cons (by kernel_rfl) (Fr.sub_nil _))))))) (J76 _ _ hF)
            · skip
              cases hF
            · skip
              obtain ⟨rfl, hF⟩ := ifB_id hF
              refine s75 (by kernel_rfl) ?_
              exact Go.weaken (Fr.sub_cons (by kernel_rfl) (Fr.sub_cons (by kernel_rfl) (Fr.sub_cons (by kernel_rfl) (Fr.sub_cons (by kernel_rfl) (Fr.sub_cons (by kernel_rfl) (Fr.sub_cons (by kernel_rfl) (Fr.sub_nil _))))))) (J76 _ _ hF)
          · skip
            refine q64 ?_
            refine q62 ?_
            refine Go.leaveK hF (fun h_156 hF => ?_)
            replace hF := obind_some hF; obtain ⟨w4_158, e157, hF⟩ := hF
            obtain ⟨hF, hF2⟩ := ret_inj hF; subst hF; subst hF2
            exact ret_of (rs := [.cell 4 4]) (vs := [w4_158]) (by kernel_rfl) (res_cell (by kernel_rfl) (load_cell (P := Try.prog) (h := h_156) (t := 4) (by kernel_rfl) e157) res_nil) (by kernel_rfl)
          · skip
            cases hF
      refine WR.blockK (by kernel_rfl) (fun K33 n33 s33 o33 q33 p33 => ?_)
      refine WR.loopK (by kernel_rfl) (fun I159 K159 b159 n159 e159 q159 p159 => ?_)
      have L159 : ∀ (m : Nat) (t5_160 : AV) (t6 : Int) (h_161 : AHeap), law05_NetTells_L1 both t0 h_2 k34 m t5_160 t6 h_161 = some (rR, hR) → Go w0 m0 (Func.ntmps Try.f4) I159 [(0, t0), (3, (newP h)), (4, (newP h_2)), (5, t5_160), (6, .int .i64 t6)] [] h_161 := by
        intro m
        induction m with
        | zero => intro t5_160 t6 h_161 hF; cases hF
        | succ m ih159 =>
          intro t5_160 t6 h_161 hF
          rw [law05_NetTells_L1_s] at hF; unfold law05_NetTells_L1b at hF
          refine b159 ?_
          refine WR.seqK (by kernel_rfl) (fun K162 n162 e162 q162 p162 => ?_)
          refine WR.seqK (by kernel_rfl) (fun K163 n163 e163 q163 p163 => ?_)
          refine WR.region (by kernel_rfl) ?_
          refine WLR.val (d := (some 22)) (v := .int .i64 t6) (h' := h_161) (by kernel_rfl) (by kernel_rfl) (by kernel_rfl) ?_
          refine WLR.val (d := (some 23)) (v := t0) (h' := h_161) (by kernel_rfl) (by kernel_rfl) (by kernel_rfl) ?_
          replace hF := obind_some hF; obtain ⟨t24, e164, hF⟩ := hF
          refine WLR.val (d := (some 24)) (v := .int .i64 t24) (h' := h_161) (by kernel_rfl) (by kernel_rfl) (Eq.trans (by kernel_rfl) (len_row (P := Try.prog) (h := h_161) (t := 22) (e' := 39) (by kernel_rfl) e164)) ?_
          replace hF := lett_some hF; obtain ⟨t25, e165, hF⟩ := hF
          refine WLR.val (d := (some 25)) (v := .bool t25) (h' := h_161) (by kernel_rfl) (by kernel_rfl) (val_of AV.bool e165 (by kernel_rfl)) ?_
          refine WLR.nil (by kernel_rfl) ?_
          refine Go.weaken (l' := [(0, t0), (3, (newP h)), (4, (newP h_2)), (5, t5_160), (6, .int .i64 t6), (25, .bool t25)]) (Fr.sub_cons (by kernel_rfl) (Fr.sub_cons (by kernel_rfl) (Fr.sub_cons (by kernel_rfl) (Fr.sub_cons (by kernel_rfl) (Fr.sub_cons (by kernel_rfl) (Fr.sub_cons (by kernel_rfl) (Fr.sub_nil _))))))) ?_
          refine n163 ?_
          cases t25 with
          | true =>
            replace hF := ifB_t hF
            refine WR.cond_true (by kernel_rfl) (by kernel_rfl) ?_
            refine WR.skip (by kernel_rfl) ?_
            refine n162 ?_
            refine WR.seqK (by kernel_rfl) (fun K166 n166 e166 q166 p166 => ?_)
            refine WR.blockK (by kernel_rfl) (fun K167 n167 s167 o167 q167 p167 => ?_)
            refine WR.seqK (by kernel_rfl) (fun K168 n168 e168 q168 p168 => ?_)
            refine WR.region (by kernel_rfl) ?_
            refine WLR.val (d := (some 29)) (v := t5_160) (h' := h_161) (by kernel_rfl) (by kernel_rfl) (by kernel_rfl) ?_
            refine WLR.val (d := (some 30)) (v := t0) (h' := h_161) (by kernel_rfl) (by kernel_rfl) (by kernel_rfl) ?_
            refine WLR.val (d := (some 31)) (v := .int .i64 t6) (h' := h_161) (by kernel_rfl) (by kernel_rfl) (by kernel_rfl) ?_
            replace hF := obind_some hF; obtain ⟨t32, e169, hF⟩ := hF
            refine WLR.val (d := (some 32)) (v := t32) (h' := h_161) (by kernel_rfl) (by kernel_rfl) (Eq.trans (by kernel_rfl) (index_row (P := Try.prog) (h := h_161) (t := 22) (e' := 39) (k := .i64) (by kernel_rfl) (by kernel_rfl) (by kernel_rfl) e169)) ?_
            replace hF := obind_some hF; obtain ⟨t33, e170, hF⟩ := hF
            refine WLR.val (d := (some 33)) (v := .agg t33) (h' := h_161) (by kernel_rfl) (by kernel_rfl) (Eq.trans (by kernel_rfl) (load_row (P := Try.prog) (h := h_161) (t := 39) (by kernel_rfl) (by kernel_rfl) e170)) ?_
            replace hF := callN_some hF; obtain ⟨r34, h_171, e172, hF⟩ := hF
            refine WLR.call (hc.says.ok w0) (d := (some 34)) (by kernel_rfl) (by kernel_rfl) (by kernel_rfl) e172 ?_
            refine WLR.val (d := (some 28)) (v := r34) (h' := h_171) (by kernel_rfl) (by kernel_rfl) (by kernel_rfl) ?_
            replace hF := obind_some hF; obtain ⟨v35, e173, hF⟩ := hF
            refine WLR.val (d := (some 35)) (v := v35) (h' := h_171) (by kernel_rfl) (by kernel_rfl) (Eq.trans (by kernel_rfl) (extract_tup (h := h_171) e173)) ?_
            replace hF := obind_some hF; obtain ⟨v36, e174, hF⟩ := hF
            replace hF := obind_some hF; obtain ⟨t36, c175, hF⟩ := hF
            have c175 := avAgg_some c175
            subst c175
            refine WLR.val (d := (some 36)) (v := .agg t36) (h' := h_171) (by kernel_rfl) (by kernel_rfl) (Eq.trans (by kernel_rfl) (extract_tup (h := h_171) e174)) ?_
            replace hF := lett_some hF; obtain ⟨h_176, e177, hF⟩ := hF
            refine WLR.val (d := (some 8)) (v := (newP h_171)) (h' := h_176) (by kernel_rfl) (by kernel_rfl) (val_ofH e177 (by kernel_rfl)) ?_
            refine WLR.val (d := (some 7)) (v := v35) (h' := h_176) (by kernel_rfl) (by kernel_rfl) (by kernel_rfl) ?_
            replace hF := obind_some hF; obtain ⟨h_178, e179, hF⟩ := hF
            refine WLR.eff (h' := h_178) (by kernel_rfl) (by kernel_rfl) (Eq.trans (by kernel_rfl) (store_row (P := Try.prog) (h := h_176) (t := 35) (v := (.agg t36)) (by kernel_rfl) (by kernel_rfl) e179)) ?_
            refine WLR.nil (by kernel_rfl) ?_
            refine Go.weaken (l' := [(0, t0), (3, (newP h)), (4, (newP h_2)), (6, .int .i64 t6), (7, v35)]) (Fr.sub_cons (by kernel_rfl) (Fr.sub_cons (by kernel_rfl) (Fr.sub_cons (by kernel_rfl) (Fr.sub_cons (by kernel_rfl) (Fr.sub_cons (by kernel_rfl) (Fr.sub_nil _)))))) ?_
            refine n168 ?_
            refine WR.seqK (by kernel_rfl) (fun K180 n180 e180 q180 p180 => ?_)
            refine WR.region (by kernel_rfl) ?_
            refine WLR.val (d := (some 37)) (v := v35) (h' := h_178) (by kernel_rfl) (by kernel_rfl) (by kernel_rfl) ?_
            refine WLR.val (d := (some 5)) (v := v35) (h' := h_178) (by kernel_rfl) (by kernel_rfl) (by kernel_rfl) ?_
            refine WLR.nil (by kernel_rfl) ?_
            refine Go.weaken (l' := [(0, t0), (3, (newP h)), (4, (newP h_2)), (5, v35), (6, .int .i64 t6)]) (Fr.sub_cons (by kernel_rfl) (Fr.sub_cons (by kernel_rfl) (Fr.sub_cons (by kernel_rfl) (Fr.sub_cons (by kernel_rfl) (Fr.sub_cons (by kernel_rfl) (Fr.sub_nil _)))))) ?_
            refine n180 ?_
            refine WR.seqK (by kernel_rfl) (fun K181 n181 e181 q181 p181 => ?_)
            refine WR.region (by kernel_rfl) ?_
            refine WLR.val (d := (some 38)) (v := v35) (h' := h_178) (by kernel_rfl) (by kernel_rfl) (by kernel_rfl) ?_
            replace hF := outK_some hF; obtain ⟨v39, h_182, e183, hF⟩ := hF
            replace hF := obind_some hF; obtain ⟨t39, c184, hF⟩ := hF
            have c184 := avBool_some c184
            subst c184
            refine WLR.val (d := (some 39)) (v := .bool t39) (h' := h_182) (by kernel_rfl) (by kernel_rfl) (Eq.trans (by kernel_rfl) e183) ?_
            refine WLR.nil (by kernel_rfl) ?_
            refine Go.weaken (l' := [(0, t0), (3, (newP h)), (4, (newP h_2)), (5, v35), (6, .int .i64 t6), (39, .bool t39)]) (Fr.sub_cons (by kernel_rfl) (Fr.sub_cons (by kernel_rfl) (Fr.sub_cons (by kernel_rfl) (Fr.sub_cons (by kernel_rfl) (Fr.sub_cons (by kernel_rfl) (Fr.sub_cons (by kernel_rfl) (Fr.sub_nil _))))))) ?_
            refine n181 ?_
            cases t39 with
            | true =>
              replace hF := ifB_t hF
              refine WR.cond_true (by kernel_rfl) (by kernel_rfl) ?_
              refine WR.seqK (by kernel_rfl) (fun K185 n185 e185 q185 p185 => ?_)
              refine WR.region (by kernel_rfl) ?_
              replace hF := obind_some hF; obtain ⟨h_186, e187, hF⟩ := hF
              refine WLR.eff (h' := h_186) (by kernel_rfl) (by kernel_rfl) (Eq.trans (by kernel_rfl) (store_row (P := Try.prog) (h := h_182) (t := 4) (v := (.bool false)) (by kernel_rfl) (by kernel_rfl) e187)) ?_
              refine WLR.nil (by kernel_rfl) ?_
              refine Go.weaken (l' := [(4, (newP h_2))]) (Fr.sub_cons (by kernel_rfl) (Fr.sub_nil _)) ?_
              refine n185 ?_
              refine WR.ret (by kernel_rfl) ?_
              refine q167 ?_
              refine q166 ?_
              refine q159 ?_
              refine q33 ?_
              refine q31 ?_
              refine Go.leaveK hF (fun h_188 hF => ?_)
              replace hF := obind_some hF; obtain ⟨w4_190, e189, hF⟩ := hF
              obtain ⟨hF, hF2⟩ := ret_inj hF; subst hF; subst hF2
              exact ret_of (rs := [.cell 4 4]) (vs := [w4_190]) (by kernel_rfl) (res_cell (by kernel_rfl) (load_cell (P := Try.prog) (h := h_188) (t := 4) (by kernel_rfl) e189) res_nil) (by kernel_rfl)
            | false =>
              replace hF := ifB_f hF
              refine WR.cond_false (by kernel_rfl) (by kernel_rfl) ?_
              refine WR.skip (by kernel_rfl) ?_
              refine n167 ?_
              refine n166 ?_
              refine WR.region (by kernel_rfl) ?_
              refine WLR.val (d := (some 26)) (v := .int .i64 t6) (h' := h_182) (by kernel_rfl) (by kernel_rfl) (by kernel_rfl) ?_
              replace hF := lett_some hF; obtain ⟨t27, e191, hF⟩ := hF
              refine WLR.val (d := (some 27)) (v := .int .i64 t27) (h' := h_182) (by kernel_rfl) (by kernel_rfl) (val_of (AV.int .i64) e191 (by kernel_rfl)) ?_
              refine WLR.val (d := (some 6)) (v := .int .i64 t27) (h' := h_182) (by kernel_rfl) (by kernel_rfl) (by kernel_rfl) ?_
              refine WLR.nil (by kernel_rfl) ?_
              refine Go.weaken (l' := [(0, t0), (3, (newP h)), (4, (newP h_2)), (5, v35), (6, .int .i64 t27)]) (Fr.sub_cons (by kernel_rfl) (Fr.sub_cons (by kernel_rfl) (Fr.sub_cons (by kernel_rfl) (Fr.sub_cons (by kernel_rfl) (Fr.sub_cons (by kernel_rfl) (Fr.sub_nil _)))))) ?_
              refine n159 ?_
              exact Go.weaken (Fr.sub_cons (by kernel_rfl) (Fr.sub_cons (by kernel_rfl) (Fr.sub_cons (by kernel_rfl) (Fr.sub_cons (by kernel_rfl) (Fr.sub_cons (by kernel_rfl) (Fr.sub_nil _)))))) (ih159 _ _ _ hF)
          | false =>
            replace hF := ifB_f hF
            refine WR.cond_false (by kernel_rfl) (by kernel_rfl) ?_
            refine WR.exit (by kernel_rfl) ?_
            refine e162 ?_
            refine e159 ?_
            refine s33 (by kernel_rfl) ?_
            exact Go.weaken (Fr.sub_cons (by kernel_rfl) (Fr.sub_cons (by kernel_rfl) (Fr.sub_cons (by kernel_rfl) (Fr.sub_nil _)))) (J34 _ _ hF)
      exact Go.weaken (Fr.sub_cons (by kernel_rfl) (Fr.sub_cons (by kernel_rfl) (Fr.sub_cons (by kernel_rfl) (Fr.sub_cons (by kernel_rfl) (Fr.sub_cons (by kernel_rfl) (Fr.sub_nil _)))))) (L159 _ _ _ _ hF)
noncomputable def law05_NetTells_fn (both : BothF) (n : Nat) : FnT := fun args h => match args with
  | [x0, x1] => obind (avInt .i64 x1) fun t1 => law05_NetTells both n x0 t1 h
  | _ => none
set_option maxRecDepth 100000 in
theorem law05_NetTells_fn_eq (both : BothF) (n : Nat) (t0 : AV) (t1 : Int) (h : AHeap) : law05_NetTells_fn both n [t0, .int .i64 t1] h = law05_NetTells both n t0 t1 h :=
  (Eq.trans (obind_eq (fun t1 => law05_NetTells both n t0 t1 h) (avInt_int .i64 t1)) rfl)
theorem law05_NetTells_holds {both : BothF} (hc : BothAll Try.prog both) (n : Nat) : Holds Try.prog 4 (law05_NetTells_fn both n) := by
  intro args h r h2 e
  unfold law05_NetTells_fn at e
  split at e
  · replace e := obind_some e; obtain ⟨t1, c1, e⟩ := e; have c1 := avInt_some c1; subst c1
    exact law05_NetTells_ok hc (n := n) e
  · cases e

end Go.Proofs.Ythdkfofkghpmcaa
