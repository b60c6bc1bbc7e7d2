/- Plain functions in place of the program's, and that their calls come to what they say. -/
import Derived.Test.YthdkfofkghpmcaaFrame
import Derived.Test.YthdkfofkghpmcaaAbs60
namespace Go.Proofs.Ythdkfofkghpmcaa
open Go.RowKit Abs

noncomputable def net_Net_All_1_L0b (both : BothF) (t0 : AV) (r6 : AV) (t7 : Int) (k7 : AHeap → R) (self : Int → AHeap → R) (t8 : Int) (h_11 : AHeap) : R :=
  lett (decide (t8 < t7)) fun (t9 : Bool) =>
  ifB t9
  (
    obind (idxP 4 r6 t8) fun t10 =>
    obind (ldRow h_11 4 t10) fun t11 =>
    lett (newH h_11 32 [.int .i64 0, .int .i64 0, .int .i64 0, .str 0 0]) fun h_20 =>
    obind (stRow h_20 4 t11 (newP h_11)) fun h_22 =>
    obind (ldCell h_22 (AV.ptr (AHeap.next h_11) 0)) fun v14 =>
    obind (avInt .i64 v14) fun t14 =>
    obind (ldRow h_22 4 (newP h_11)) fun t15 =>
    callN (dynB Try.prog both t0 [.int .i64 t14, .agg t15] h_22) fun r16 h_28 =>
    obind (avBool r16) fun t16 =>
    lett (!t16) fun (t17 : Bool) =>
    ifB t17
    (
      marksK [] h_28 fun h_32 =>
      some (.ret (.tup []), h_32))
    (
      lett (IntKind.i64.wrap (t8 + 1)) fun (t18 : Int) =>
      self t18 h_28))
  (
    k7 h_11)
noncomputable def net_Net_All_1_L0 (both : BothF) (t0 : AV) (r6 : AV) (t7 : Int) (k7 : AHeap → R) : Nat → Int → AHeap → R := iterR (fun _ _ => none) (net_Net_All_1_L0b both t0 r6 t7 k7)
theorem net_Net_All_1_L0_s (both : BothF) (t0 : AV) (r6 : AV) (t7 : Int) (k7 : AHeap → R) (m : Nat) : net_Net_All_1_L0 both t0 r6 t7 k7 (m + 1) = net_Net_All_1_L0b both t0 r6 t7 k7 (net_Net_All_1_L0 both t0 r6 t7 k7 m) := rfl
noncomputable def net_Net_All_1 (both : BothF) (n : Nat) (t0 : AV) (t1 : AV) (h : AHeap) : R :=
  obind (ldCell h t1) fun v5 =>
  callN (both false 15 [v5] h) fun r6 h_3 =>
  obind (lenL r6) fun t7 =>
  lett (fun  (h_8 : AHeap) =>
    marksK [] h_8 fun h_9 =>
    some (.ret (.tup []), h_9)) fun k7 =>
  net_Net_All_1_L0 both t0 r6 t7 k7 n 0 h_3
set_option maxHeartbeats 4000000 in
set_option maxRecDepth 20000 in
theorem net_Net_All_1_ok {both : BothF} (hc : BothAll Try.prog both) {n : Nat} {t0 : AV} {t1 : AV} {h : AHeap} {rR : ARes} {hR : AHeap} (hF : net_Net_All_1 both n t0 t1 h = some (rR, hR)) : Says Try.prog 30 [t0, t1] h rR hR := by
  unfold net_Net_All_1 at hF
  refine says_ofM (fn := Try.f30) Try.func30 (c := codeOf Try.f30) (by kernel_rfl) (by kernel_rfl) (fun w0 m0 => ?_)
  refine WR.weaken (l' := [(0, t0), (1, t1)]) (Fr.sub_cons (by kernel_rfl) (Fr.sub_cons (by kernel_rfl) (Fr.sub_nil _))) ?_
  refine WR.seqK (by kernel_rfl) (fun K1 n1 e1 q1 p1 => ?_)
  refine WR.region (by kernel_rfl) ?_
  replace hF := obind_some hF; obtain ⟨v5, e2, hF⟩ := hF
  refine WLR.val (d := (some 5)) (v := v5) (h' := h) (by kernel_rfl) (by kernel_rfl) (Eq.trans (by kernel_rfl) (load_cell (P := Try.prog) (h := h) (t := 25) (by kernel_rfl) e2)) ?_
  replace hF := callN_some hF; obtain ⟨r6, h_3, e4, hF⟩ := hF
  refine WLR.call (hc.says.ok w0) (d := (some 6)) (by kernel_rfl) (by kernel_rfl) (by kernel_rfl) e4 ?_
  replace hF := obind_some hF; obtain ⟨t7, e5, hF⟩ := hF
  refine WLR.val (d := (some 7)) (v := .int .i64 t7) (h' := h_3) (by kernel_rfl) (by kernel_rfl) (Eq.trans (by kernel_rfl) (len_row (P := Try.prog) (h := h_3) (t := 27) (e' := 32) (by kernel_rfl) e5)) ?_
  refine WLR.val (d := (some 8)) (v := .int .i64 0) (h' := h_3) (by kernel_rfl) (by kernel_rfl) (by kernel_rfl) ?_
  refine WLR.nil (by kernel_rfl) ?_
  refine Go.weaken (l' := [(0, t0), (6, r6), (7, .int .i64 t7), (8, .int .i64 0)]) (Fr.sub_cons (by kernel_rfl) (Fr.sub_cons (by kernel_rfl) (Fr.sub_cons (by kernel_rfl) (Fr.sub_cons (by kernel_rfl) (Fr.sub_nil _))))) ?_
  refine n1 ?_
  replace hF := lett_some hF; obtain ⟨k7, e7, hF⟩ := hF
  have J7 : ∀  (h_8 : AHeap), k7 h_8 = some (rR, hR) → Go w0 m0 (Func.ntmps Try.f30) (FinM Try.prog Try.f30 w0 m0 rR hR .normal) [] [] h_8 := by
    intro  h_8 hF
    rw [e7] at hF
    refine Go.leaveKN hF (fun h_9 hF => ?_)
    obtain ⟨hF, hF2⟩ := ret_inj hF; subst hF; subst hF2
    exact ret_of (rs := []) (vs := []) (by kernel_rfl) res_nil (by kernel_rfl)
  refine WR.blockK (by kernel_rfl) (fun K6 n6 s6 o6 q6 p6 => ?_)
  refine WR.loopK (by kernel_rfl) (fun I10 K10 b10 n10 e10 q10 p10 => ?_)
  have L10 : ∀ (m : Nat) (t8 : Int) (h_11 : AHeap), net_Net_All_1_L0 both t0 r6 t7 k7 m t8 h_11 = some (rR, hR) → Go w0 m0 (Func.ntmps Try.f30) I10 [(0, t0), (6, r6), (7, .int .i64 t7), (8, .int .i64 t8)] [] h_11 := by
    intro m
    induction m with
    | zero => intro t8 h_11 hF; cases hF
    | succ m ih10 =>
      intro t8 h_11 hF
      rw [net_Net_All_1_L0_s] at hF; unfold net_Net_All_1_L0b at hF
      refine b10 ?_
      refine WR.seqK (by kernel_rfl) (fun K12 n12 e12 q12 p12 => ?_)
      refine WR.region (by kernel_rfl) ?_
      replace hF := lett_some hF; obtain ⟨t9, e13, hF⟩ := hF
      refine WLR.val (d := (some 9)) (v := .bool t9) (h' := h_11) (by kernel_rfl) (by kernel_rfl) (val_of AV.bool e13 (by kernel_rfl)) ?_
      refine WLR.nil (by kernel_rfl) ?_
      refine Go.weaken (l' := [(0, t0), (6, r6), (7, .int .i64 t7), (8, .int .i64 t8), (9, .bool t9)]) (Fr.sub_cons (by kernel_rfl) (Fr.sub_cons (by kernel_rfl) (Fr.sub_cons (by kernel_rfl) (Fr.sub_cons (by kernel_rfl) (Fr.sub_cons (by kernel_rfl) (Fr.sub_nil _)))))) ?_
      refine n12 ?_
      refine WR.seqK (by kernel_rfl) (fun K14 n14 e14 q14 p14 => ?_)
      cases t9 with
      | true =>
        replace hF := ifB_t hF
        refine WR.cond_true (by kernel_rfl) (by kernel_rfl) ?_
        refine WR.skip (by kernel_rfl) ?_
        refine n14 ?_
        refine WR.seqK (by kernel_rfl) (fun K15 n15 e15 q15 p15 => ?_)
        refine WR.blockK (by kernel_rfl) (fun K16 n16 s16 o16 q16 p16 => ?_)
        refine WR.seqK (by kernel_rfl) (fun K17 n17 e17 q17 p17 => ?_)
        refine WR.region (by kernel_rfl) ?_
        replace hF := obind_some hF; obtain ⟨t10, e18, hF⟩ := hF
        refine WLR.val (d := (some 10)) (v := t10) (h' := h_11) (by kernel_rfl) (by kernel_rfl) (Eq.trans (by kernel_rfl) (index_row (P := Try.prog) (h := h_11) (t := 27) (e' := 32) (k := .i64) (by kernel_rfl) (by kernel_rfl) (by kernel_rfl) e18)) ?_
        replace hF := obind_some hF; obtain ⟨t11, e19, hF⟩ := hF
        refine WLR.val (d := (some 11)) (v := .agg t11) (h' := h_11) (by kernel_rfl) (by kernel_rfl) (Eq.trans (by kernel_rfl) (load_row (P := Try.prog) (h := h_11) (t := 32) (by kernel_rfl) (by kernel_rfl) e19)) ?_
        replace hF := lett_some hF; obtain ⟨h_20, e21, hF⟩ := hF
        refine WLR.val (d := (some 4)) (v := (newP h_11)) (h' := h_20) (by kernel_rfl) (by kernel_rfl) (val_ofH e21 (by kernel_rfl)) ?_
        replace hF := obind_some hF; obtain ⟨h_22, e23, hF⟩ := hF
        refine WLR.eff (h' := h_22) (by kernel_rfl) (by kernel_rfl) (Eq.trans (by kernel_rfl) (store_row (P := Try.prog) (h := h_20) (t := 32) (v := (.agg t11)) (by kernel_rfl) (by kernel_rfl) e23)) ?_
        refine WLR.nil (by kernel_rfl) ?_
        refine Go.weaken (l' := [(0, t0), (4, (newP h_11)), (6, r6), (7, .int .i64 t7), (8, .int .i64 t8)]) (Fr.sub_cons (by kernel_rfl) (Fr.sub_cons (by kernel_rfl) (Fr.sub_cons (by kernel_rfl) (Fr.sub_cons (by kernel_rfl) (Fr.sub_cons (by kernel_rfl) (Fr.sub_nil _)))))) ?_
        refine n17 ?_
        refine WR.seqK (by kernel_rfl) (fun K24 n24 e24 q24 p24 => ?_)
        refine WR.region (by kernel_rfl) ?_
        refine WLR.val (d := (some 12)) (v := t0) (h' := h_22) (by kernel_rfl) (by kernel_rfl) (by kernel_rfl) ?_
        refine WLR.val (d := (some 13)) (v := (AV.ptr (AHeap.next h_11) 0)) (h' := h_22) (by kernel_rfl) (by kernel_rfl) (by kernel_rfl) ?_
        replace hF := obind_some hF; obtain ⟨v14, e25, hF⟩ := hF
        replace hF := obind_some hF; obtain ⟨t14, c26, hF⟩ := hF
        have c26 := avInt_some c26
        subst c26
        refine WLR.val (d := (some 14)) (v := .int .i64 t14) (h' := h_22) (by kernel_rfl) (by kernel_rfl) (Eq.trans (by kernel_rfl) (load_cell (P := Try.prog) (h := h_22) (t := 3) (by kernel_rfl) e25)) ?_
        replace hF := obind_some hF; obtain ⟨t15, e27, hF⟩ := hF
        refine WLR.val (d := (some 15)) (v := .agg t15) (h' := h_22) (by kernel_rfl) (by kernel_rfl) (Eq.trans (by kernel_rfl) (load_row (P := Try.prog) (h := h_22) (t := 32) (by kernel_rfl) (by kernel_rfl) e27)) ?_
        replace hF := callN_some hF; obtain ⟨r16, h_28, e29, hF⟩ := hF
        replace hF := obind_some hF; obtain ⟨t16, c30, hF⟩ := hF
        have c30 := avBool_some c30
        subst c30
        refine WLR.dyn (d := (some 16)) hc e29 ?_
        replace hF := lett_some hF; obtain ⟨t17, e31, hF⟩ := hF
        refine WLR.val (d := (some 17)) (v := .bool t17) (h' := h_28) (by kernel_rfl) (by kernel_rfl) (val_of AV.bool e31 (by kernel_rfl)) ?_
        refine WLR.nil (by kernel_rfl) ?_
        refine Go.weaken (l' := [(0, t0), (6, r6), (7, .int .i64 t7), (8, .int .i64 t8), (17, .bool t17)]) (Fr.sub_cons (by kernel_rfl) (Fr.sub_cons (by kernel_rfl) (Fr.sub_cons (by kernel_rfl) (Fr.sub_cons (by kernel_rfl) (Fr.sub_cons (by kernel_rfl) (Fr.sub_nil _)))))) ?_
        refine n24 ?_
        cases t17 with
        | true =>
          replace hF := ifB_t hF
          refine WR.cond_true (by kernel_rfl) (by kernel_rfl) ?_
          refine WR.ret (by kernel_rfl) ?_
          refine q16 ?_
          refine q15 ?_
          refine q10 ?_
          refine q6 ?_
          refine Go.leaveK hF (fun h_32 hF => ?_)
          obtain ⟨hF, hF2⟩ := ret_inj hF; subst hF; subst hF2
          exact ret_of (rs := []) (vs := []) (by kernel_rfl) res_nil (by kernel_rfl)
        | false =>
          replace hF := ifB_f hF
          refine WR.cond_false (by kernel_rfl) (by kernel_rfl) ?_
          refine WR.skip (by kernel_rfl) ?_
          refine n16 ?_
          refine n15 ?_
          refine WR.region (by kernel_rfl) ?_
          replace hF := lett_some hF; obtain ⟨t18, e33, hF⟩ := hF
          refine WLR.val (d := (some 18)) (v := .int .i64 t18) (h' := h_28) (by kernel_rfl) (by kernel_rfl) (val_of (AV.int .i64) e33 (by kernel_rfl)) ?_
          refine WLR.val (d := (some 8)) (v := .int .i64 t18) (h' := h_28) (by kernel_rfl) (by kernel_rfl) (by kernel_rfl) ?_
          refine WLR.nil (by kernel_rfl) ?_
          refine Go.weaken (l' := [(0, t0), (6, r6), (7, .int .i64 t7), (8, .int .i64 t18)]) (Fr.sub_cons (by kernel_rfl) (Fr.sub_cons (by kernel_rfl) (Fr.sub_cons (by kernel_rfl) (Fr.sub_cons (by kernel_rfl) (Fr.sub_nil _))))) ?_
          refine n10 ?_
          exact Go.weaken (Fr.sub_cons (by kernel_rfl) (Fr.sub_cons (by kernel_rfl) (Fr.sub_cons (by kernel_rfl) (Fr.sub_cons (by kernel_rfl) (Fr.sub_nil _))))) (ih10 _ _ hF)
      | false =>
        replace hF := ifB_f hF
        refine WR.cond_false (by kernel_rfl) (by kernel_rfl) ?_
        refine WR.exit (by kernel_rfl) ?_
        refine e14 ?_
        refine e10 ?_
        refine s6 (by kernel_rfl) ?_
        exact Go.weaken (Fr.sub_nil _) (J7 _ hF)
  exact Go.weaken (Fr.sub_cons (by kernel_rfl) (Fr.sub_cons (by kernel_rfl) (Fr.sub_cons (by kernel_rfl) (Fr.sub_cons (by kernel_rfl) (Fr.sub_nil _))))) (L10 _ _ _ hF)
noncomputable def net_Net_All_1_fn (both : BothF) (n : Nat) : FnT := fun args h => match args with
  | [x0, x1] => net_Net_All_1 both n x0 x1 h
  | _ => none
set_option maxRecDepth 100000 in
theorem net_Net_All_1_fn_eq (both : BothF) (n : Nat) (t0 : AV) (t1 : AV) (h : AHeap) : net_Net_All_1_fn both n [t0, t1] h = net_Net_All_1 both n t0 t1 h :=
  rfl
theorem net_Net_All_1_holds {both : BothF} (hc : BothAll Try.prog both) (n : Nat) : Holds Try.prog 30 (net_Net_All_1_fn both n) := by
  intro args h r h2 e
  unfold net_Net_All_1_fn at e
  split at e
  · exact net_Net_All_1_ok hc (n := n) e
  · cases e

end Go.Proofs.Ythdkfofkghpmcaa
