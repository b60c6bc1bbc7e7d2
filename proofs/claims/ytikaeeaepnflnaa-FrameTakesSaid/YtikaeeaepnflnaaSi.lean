/- Plain functions in place of the program's, and that their calls come to what they say. -/
import Derived.Test.YtikaeeaepnflnaaFrame
import Derived.Test.YtikaeeaepnflnaaAbs60
namespace Go.Proofs.Ytikaeeaepnflnaa
open Go.RowKit Abs

noncomputable def frame_All_1_L0b (both : BothF) (t0 : AV) (t1 : AV) (self : Int → AHeap → R) (t3 : Int) (h_4 : AHeap) : R :=
  obind (ldCell h_4 t1) fun v8 =>
  obind (avStr v8) fun t8 =>
  obind (sliceS t8 t3 (lenS t8)) fun t10 =>
  callN (both false 10 [strA t10] h_4) fun r11 h_10 =>
  obind (extT 0 r11) fun v12 =>
  obind (avStr v12) fun t12 =>
  obind (extT 1 r11) fun v13 =>
  obind (avInt .i64 v13) fun t13 =>
  obind (extT 2 r11) fun v14 =>
  obind (avInt .i64 v14) fun t14 =>
  lett ((t14 : Int) != 0) fun (t16 : Bool) =>
  lett (fun (t23 : Bool) (h_21 : AHeap) =>
    ifB t23
    (
      marksK [] h_21 fun h_24 =>
      some (.ret (.tup []), h_24))
    (
      lett (IntKind.i64.wrap (t3 + t13)) fun (t26 : Int) =>
      self t26 h_21)) fun j23 =>
  ifB t16
  (
    j23 true h_10)
  (
    callN (dynB Try.prog both t0 [.int .i64 t3, strA t12] h_10) fun r21 h_26 =>
    obind (avBool r21) fun t21 =>
    lett (!t21) fun (t22 : Bool) =>
    j23 t22 h_26)
noncomputable def frame_All_1_L0 (both : BothF) (t0 : AV) (t1 : AV) : Nat → Int → AHeap → R := iterR (fun _ _ => none) (frame_All_1_L0b both t0 t1)
theorem frame_All_1_L0_s (both : BothF) (t0 : AV) (t1 : AV) (m : Nat) : frame_All_1_L0 both t0 t1 (m + 1) = frame_All_1_L0b both t0 t1 (frame_All_1_L0 both t0 t1 m) := rfl
noncomputable def frame_All_1 (both : BothF) (n : Nat) (t0 : AV) (t1 : AV) (h : AHeap) : R :=
  frame_All_1_L0 both t0 t1 n 0 h
set_option maxHeartbeats 4000000 in
set_option maxRecDepth 20000 in
theorem frame_All_1_ok {both : BothF} (hc : BothAll Try.prog both) {n : Nat} {t0 : AV} {t1 : AV} {h : AHeap} {rR : ARes} {hR : AHeap} (hF : frame_All_1 both n t0 t1 h = some (rR, hR)) : Says Try.prog 25 [t0, t1] h rR hR := by
  unfold frame_All_1 at hF
  refine says_ofM (fn := Try.f25) Try.func25 (c := codeOf Try.f25) (by kernel_rfl) (by kernel_rfl) (fun w0 m0 => ?_)
  refine WR.weaken (l' := [(0, t0), (1, t1)]) (Fr.sub_cons (by kernel_rfl) (Fr.sub_cons (by kernel_rfl) (Fr.sub_nil _))) ?_
  refine WR.seqK (by kernel_rfl) (fun K1 n1 e1 q1 p1 => ?_)
  refine WR.region (by kernel_rfl) ?_
  refine WLR.val (d := (some 3)) (v := .int .i64 0) (h' := h) (by kernel_rfl) (by kernel_rfl) (by kernel_rfl) ?_
  refine WLR.nil (by kernel_rfl) ?_
  refine Go.weaken (l' := [(0, t0), (1, t1), (3, .int .i64 0)]) (Fr.sub_cons (by kernel_rfl) (Fr.sub_cons (by kernel_rfl) (Fr.sub_cons (by kernel_rfl) (Fr.sub_nil _)))) ?_
  refine n1 ?_
  refine WR.blockK (by kernel_rfl) (fun K2 n2 s2 o2 q2 p2 => ?_)
  refine WR.loopK (by kernel_rfl) (fun I3 K3 b3 n3 e3 q3 p3 => ?_)
  have L3 : ∀ (m : Nat) (t3 : Int) (h_4 : AHeap), frame_All_1_L0 both t0 t1 m t3 h_4 = some (rR, hR) → Go w0 m0 (Func.ntmps Try.f25) I3 [(0, t0), (1, t1), (3, .int .i64 t3)] [] h_4 := by
    intro m
    induction m with
    | zero => intro t3 h_4 hF; cases hF
    | succ m ih3 =>
      intro t3 h_4 hF
      rw [frame_All_1_L0_s] at hF; unfold frame_All_1_L0b at hF
      refine b3 ?_
      refine WR.blockK (by kernel_rfl) (fun K5 n5 s5 o5 q5 p5 => ?_)
      refine WR.seqK (by kernel_rfl) (fun K6 n6 e6 q6 p6 => ?_)
      refine WR.region (by kernel_rfl) ?_
      replace hF := obind_some hF; obtain ⟨v8, e7, hF⟩ := hF
      replace hF := obind_some hF; obtain ⟨t8, c8, hF⟩ := hF
      have c8 := avStr_some c8
      subst c8
      refine WLR.val (d := (some 8)) (v := strA t8) (h' := h_4) (by kernel_rfl) (by kernel_rfl) (Eq.trans (by kernel_rfl) (load_cell (P := Try.prog) (h := h_4) (t := 9) (by kernel_rfl) e7)) ?_
      refine WLR.val (d := (some 9)) (v := .int .i64 t3) (h' := h_4) (by kernel_rfl) (by kernel_rfl) (by kernel_rfl) ?_
      replace hF := obind_some hF; obtain ⟨t10, e9, hF⟩ := hF
      refine WLR.val (d := (some 10)) (v := strA t10) (h' := h_4) (by kernel_rfl) (by kernel_rfl) (Eq.trans (by kernel_rfl) (slice_str (P := Try.prog) (h := h_4) (t := 9) (A := (some (.int .i64 t3))) (B := none) (by kernel_rfl) (.inl ⟨_, rfl⟩) (.inr ⟨rfl, rfl⟩) e9)) ?_
      replace hF := callN_some hF; obtain ⟨r11, h_10, e11, hF⟩ := hF
      refine WLR.call (hc.says.ok w0) (d := (some 11)) (by kernel_rfl) (by kernel_rfl) (by kernel_rfl) e11 ?_
      refine WLR.val (d := (some 7)) (v := r11) (h' := h_10) (by kernel_rfl) (by kernel_rfl) (by kernel_rfl) ?_
      replace hF := obind_some hF; obtain ⟨v12, e12, hF⟩ := hF
      replace hF := obind_some hF; obtain ⟨t12, c13, hF⟩ := hF
      have c13 := avStr_some c13
      subst c13
      refine WLR.val (d := (some 12)) (v := strA t12) (h' := h_10) (by kernel_rfl) (by kernel_rfl) (Eq.trans (by kernel_rfl) (extract_tup (h := h_10) e12)) ?_
      replace hF := obind_some hF; obtain ⟨v13, e14, hF⟩ := hF
      replace hF := obind_some hF; obtain ⟨t13, c15, hF⟩ := hF
      have c15 := avInt_some c15
      subst c15
      refine WLR.val (d := (some 13)) (v := .int .i64 t13) (h' := h_10) (by kernel_rfl) (by kernel_rfl) (Eq.trans (by kernel_rfl) (extract_tup (h := h_10) e14)) ?_
      replace hF := obind_some hF; obtain ⟨v14, e16, hF⟩ := hF
      replace hF := obind_some hF; obtain ⟨t14, c17, hF⟩ := hF
      have c17 := avInt_some c17
      subst c17
      refine WLR.val (d := (some 14)) (v := .int .i64 t14) (h' := h_10) (by kernel_rfl) (by kernel_rfl) (Eq.trans (by kernel_rfl) (extract_tup (h := h_10) e16)) ?_
      refine WLR.val (d := (some 4)) (v := strA t12) (h' := h_10) (by kernel_rfl) (by kernel_rfl) (by kernel_rfl) ?_
      refine WLR.val (d := (some 5)) (v := .int .i64 t13) (h' := h_10) (by kernel_rfl) (by kernel_rfl) (by kernel_rfl) ?_
      refine WLR.val (d := (some 6)) (v := .int .i64 t14) (h' := h_10) (by kernel_rfl) (by kernel_rfl) (by kernel_rfl) ?_
      refine WLR.nil (by kernel_rfl) ?_
      refine Go.weaken (l' := [(0, t0), (1, t1), (3, .int .i64 t3), (4, strA t12), (5, .int .i64 t13), (6, .int .i64 t14)]) (Fr.sub_cons (by kernel_rfl) (Fr.sub_cons (by kernel_rfl) (Fr.sub_cons (by kernel_rfl) (Fr.sub_cons (by kernel_rfl) (Fr.sub_cons (by kernel_rfl) (Fr.sub_cons (by kernel_rfl) (Fr.sub_nil _))))))) ?_
      refine n6 ?_
      refine WR.seqK (by kernel_rfl) (fun K18 n18 e18 q18 p18 => ?_)
      refine WR.seqK (by kernel_rfl) (fun K19 n19 e19 q19 p19 => ?_)
      refine WR.region (by kernel_rfl) ?_
      refine WLR.val (d := (some 15)) (v := .int .i64 t14) (h' := h_10) (by kernel_rfl) (by kernel_rfl) (by kernel_rfl) ?_
      replace hF := lett_some hF; obtain ⟨t16, e20, hF⟩ := hF
      refine WLR.val (d := (some 16)) (v := .bool t16) (h' := h_10) (by kernel_rfl) (by kernel_rfl) (val_of AV.bool e20 (by kernel_rfl)) ?_
      refine WLR.val (d := (some 17)) (v := .bool t16) (h' := h_10) (by kernel_rfl) (by kernel_rfl) (by kernel_rfl) ?_
      replace hF := lett_some hF; obtain ⟨j23, e22, hF⟩ := hF
      have J23 : ∀ (t23 : Bool) (h_21 : AHeap), j23 t23 h_21 = some (rR, hR) → WLR Try.prog w0 m0 (Func.ntmps Try.f25) none 0 (Code.ops (Code.p1 (Code.p1 (Code.p2 (Code.p1 (Code.p1 (Code.p1 (Code.p2 (codeOf Try.f25))))))))) 9 K19 [(0, t0), (1, t1), (3, .int .i64 t3), (5, .int .i64 t13), (23, .bool t23)] [] h_21 := by
        intro t23 h_21 hF
        rw [e22] at hF
        refine WLR.nil (by kernel_rfl) ?_
        refine Go.weaken (l' := [(0, t0), (1, t1), (3, .int .i64 t3), (5, .int .i64 t13), (23, .bool t23)]) (Fr.sub_cons (by kernel_rfl) (Fr.sub_cons (by kernel_rfl) (Fr.sub_cons (by kernel_rfl) (Fr.sub_cons (by kernel_rfl) (Fr.sub_cons (by kernel_rfl) (Fr.sub_nil _)))))) ?_
        refine n19 ?_
        cases t23 with
        | true =>
          replace hF := ifB_t hF
          refine WR.cond_true (by kernel_rfl) (by kernel_rfl) ?_
          refine WR.ret (by kernel_rfl) ?_
          refine q18 ?_
          refine q5 ?_
          refine q3 ?_
          refine q2 ?_
          refine Go.leaveK hF (fun h_24 hF => ?_)
          obtain ⟨hF, hF2⟩ := ret_inj hF; subst hF; subst hF2
          exact ret_of (rs := []) (vs := []) (by kernel_rfl) res_nil (by kernel_rfl)
        | false =>
          replace hF := ifB_f hF
          refine WR.cond_false (by kernel_rfl) (by kernel_rfl) ?_
          refine WR.skip (by kernel_rfl) ?_
          refine n18 ?_
          refine WR.region (by kernel_rfl) ?_
          refine WLR.val (d := (some 24)) (v := .int .i64 t3) (h' := h_21) (by kernel_rfl) (by kernel_rfl) (by kernel_rfl) ?_
          refine WLR.val (d := (some 25)) (v := .int .i64 t13) (h' := h_21) (by kernel_rfl) (by kernel_rfl) (by kernel_rfl) ?_
          replace hF := lett_some hF; obtain ⟨t26, e25, hF⟩ := hF
          refine WLR.val (d := (some 26)) (v := .int .i64 t26) (h' := h_21) (by kernel_rfl) (by kernel_rfl) (val_of (AV.int .i64) e25 (by kernel_rfl)) ?_
          refine WLR.val (d := (some 3)) (v := .int .i64 t26) (h' := h_21) (by kernel_rfl) (by kernel_rfl) (by kernel_rfl) ?_
          refine WLR.nil (by kernel_rfl) ?_
          refine Go.weaken (l' := [(0, t0), (1, t1), (3, .int .i64 t26)]) (Fr.sub_cons (by kernel_rfl) (Fr.sub_cons (by kernel_rfl) (Fr.sub_cons (by kernel_rfl) (Fr.sub_nil _)))) ?_
          refine n5 ?_
          refine n3 ?_
          exact Go.weaken (Fr.sub_cons (by kernel_rfl) (Fr.sub_cons (by kernel_rfl) (Fr.sub_cons (by kernel_rfl) (Fr.sub_nil _)))) (ih3 _ _ hF)
      cases t16 with
      | true =>
        replace hF := ifB_t hF
        refine WLR.not (d := (some 18)) (by kernel_rfl) (by kernel_rfl) ?_
        refine WLR.not (d := (some 19)) (by kernel_rfl) (by kernel_rfl) ?_
        refine WLR.not (d := (some 20)) (by kernel_rfl) (by kernel_rfl) ?_
        refine WLR.not (d := (some 21)) (by kernel_rfl) (by kernel_rfl) ?_
        refine WLR.not (d := (some 22)) (by kernel_rfl) (by kernel_rfl) ?_
        refine WLR.val (d := (some 23)) (v := .bool true) (h' := h_10) (by kernel_rfl) (by kernel_rfl) (by kernel_rfl) ?_
        exact WLR.weaken (Fr.sub_cons (by kernel_rfl) (Fr.sub_cons (by kernel_rfl) (Fr.sub_cons (by kernel_rfl) (Fr.sub_cons (by kernel_rfl) (Fr.sub_cons (by kernel_rfl) (Fr.sub_nil _)))))) (J23 _ _ hF)
      | false =>
        replace hF := ifB_f hF
        refine WLR.val (d := (some 18)) (v := t0) (h' := h_10) (by kernel_rfl) (by kernel_rfl) (by kernel_rfl) ?_
        refine WLR.val (d := (some 19)) (v := .int .i64 t3) (h' := h_10) (by kernel_rfl) (by kernel_rfl) (by kernel_rfl) ?_
        refine WLR.val (d := (some 20)) (v := strA t12) (h' := h_10) (by kernel_rfl) (by kernel_rfl) (by kernel_rfl) ?_
        replace hF := callN_some hF; obtain ⟨r21, h_26, e27, hF⟩ := hF
        replace hF := obind_some hF; obtain ⟨t21, c28, hF⟩ := hF
        have c28 := avBool_some c28
        subst c28
        refine WLR.dyn (d := (some 21)) hc e27 ?_
        replace hF := lett_some hF; obtain ⟨t22, e29, hF⟩ := hF
        refine WLR.val (d := (some 22)) (v := .bool t22) (h' := h_26) (by kernel_rfl) (by kernel_rfl) (val_of AV.bool e29 (by kernel_rfl)) ?_
        refine WLR.val (d := (some 23)) (v := .bool t22) (h' := h_26) (by kernel_rfl) (by kernel_rfl) (by kernel_rfl) ?_
        exact WLR.weaken (Fr.sub_cons (by kernel_rfl) (Fr.sub_cons (by kernel_rfl) (Fr.sub_cons (by kernel_rfl) (Fr.sub_cons (by kernel_rfl) (Fr.sub_cons (by kernel_rfl) (Fr.sub_nil _)))))) (J23 _ _ hF)
  exact Go.weaken (Fr.sub_cons (by kernel_rfl) (Fr.sub_cons (by kernel_rfl) (Fr.sub_cons (by kernel_rfl) (Fr.sub_nil _)))) (L3 _ _ _ hF)
noncomputable def frame_All_1_fn (both : BothF) (n : Nat) : FnT := fun args h => match args with
  | [x0, x1] => frame_All_1 both n x0 x1 h
  | _ => none
set_option maxRecDepth 100000 in
theorem frame_All_1_fn_eq (both : BothF) (n : Nat) (t0 : AV) (t1 : AV) (h : AHeap) : frame_All_1_fn both n [t0, t1] h = frame_All_1 both n t0 t1 h :=
  rfl
theorem frame_All_1_holds {both : BothF} (hc : BothAll Try.prog both) (n : Nat) : Holds Try.prog 25 (frame_All_1_fn both n) := by
  intro args h r h2 e
  unfold frame_All_1_fn at e
  split at e
  · exact frame_All_1_ok hc (n := n) e
  · cases e

end Go.Proofs.Ytikaeeaepnflnaa
