/- Plain functions in place of the program's, and that their calls come to what they say. -/
import Derived.Test.YtijhmmimffgjiaaFrame
import Derived.Test.YtijhmmimffgjiaaAbs29
import Derived.Test.YtijhmmimffgjiaaGb
namespace Go.Proofs.Ytijhmmimffgjiaa
open Go.RowKit Abs

noncomputable def pattern_Quote_L0b (call : CallF) (t0 : Bytes) (h : AHeap) (k11 : AHeap → R) (self : Int → AHeap → R) (t8 : Int) (h_21 : AHeap) : R :=
  lett (decide (t8 < (lenS t0))) fun (t9 : Bool) =>
  ifB t9
  (
    obind (idxS t0 t8) fun t13 =>
    callN (call 30 [(newP h), .int .u8 t13] h_21) fun _ h_29 =>
    lett (IntKind.i64.wrap (t8 + 1)) fun (t15 : Int) =>
    self t15 h_29)
  (
    k11 h_21)
noncomputable def pattern_Quote_L0 (call : CallF) (t0 : Bytes) (h : AHeap) (k11 : AHeap → R) : Nat → Int → AHeap → R := iterR (fun _ _ => none) (pattern_Quote_L0b call t0 h k11)
theorem pattern_Quote_L0_s (call : CallF) (t0 : Bytes) (h : AHeap) (k11 : AHeap → R) (m : Nat) : pattern_Quote_L0 call t0 h k11 (m + 1) = pattern_Quote_L0b call t0 h k11 (pattern_Quote_L0 call t0 h k11 m) := rfl
noncomputable def pattern_Quote (call : CallF) (n : Nat) (t0 : Bytes) (h : AHeap) : R :=
  lett (newH h 57 [.nilp, .nsl]) fun h_3 =>
  callN (call 29 [(newP h), .int .u8 34] h_3) fun _ h_6 =>
  lett (fun  (h_12 : AHeap) =>
    callN (call 29 [(newP h), .int .u8 34] h_12) fun _ h_14 =>
    callN (call 31 [(newP h)] h_14) fun r17 h_17 =>
    obind (avStr r17) fun t17 =>
    some (.ret (strA t17), h_17)) fun k11 =>
  pattern_Quote_L0 call t0 h k11 n 0 h_6
set_option maxHeartbeats 4000000 in
set_option maxRecDepth 20000 in
theorem pattern_Quote_ok {call : CallF} (hc : SaysAll Try.prog call) {n : Nat} {t0 : Bytes} {h : AHeap} {rR : ARes} {hR : AHeap} (hF : pattern_Quote call n t0 h = some (rR, hR)) : Says Try.prog 15 [strA t0] h rR hR := by
  unfold pattern_Quote at hF
  refine says_of (fn := Try.f15) Try.func15 (c := codeOf Try.f15) (by kernel_rfl) (by kernel_rfl) (fun w0 m0 => ?_)
  refine W.weaken (l' := [(0, strA t0)]) (Fr.sub_cons (by kernel_rfl) (Fr.sub_nil _)) ?_
  refine W.seqK (by kernel_rfl) (fun K1 n1 e1 r1 p1 => ?_)
  refine W.region (by kernel_rfl) ?_
  refine WL.val (d := (some 2)) (v := strA ([] : Bytes)) (h' := h) (by kernel_rfl) (by kernel_rfl) (by kernel_rfl) ?_
  refine WL.nil (by kernel_rfl) ?_
  refine Go.weaken (l' := [(0, strA t0)]) (Fr.sub_cons (by kernel_rfl) (Fr.sub_nil _)) ?_
  refine n1 ?_
  refine W.seqK (by kernel_rfl) (fun K2 n2 e2 r2 p2 => ?_)
  refine W.region (by kernel_rfl) ?_
  replace hF := lett_some hF; obtain ⟨h_3, e4, hF⟩ := hF
  refine WL.val (d := (some 3)) (v := (newP h)) (h' := h_3) (by kernel_rfl) (by kernel_rfl) (val_ofH e4 (by kernel_rfl)) ?_
  refine WL.nil (by kernel_rfl) ?_
  refine Go.weaken (l' := [(0, strA t0), (3, (newP h))]) (Fr.sub_cons (by kernel_rfl) (Fr.sub_cons (by kernel_rfl) (Fr.sub_nil _))) ?_
  refine n2 ?_
  refine W.seqK (by kernel_rfl) (fun K5 n5 e5 r5 p5 => ?_)
  refine W.region (by kernel_rfl) ?_
  replace hF := callN_some hF; obtain ⟨r5, h_6, e7, hF⟩ := hF
  refine WL.call (hc.ok w0) (d := (some 5)) (by kernel_rfl) (by kernel_rfl) (by kernel_rfl) e7 ?_
  refine WL.nil (by kernel_rfl) ?_
  refine Go.weaken (l' := [(0, strA t0), (3, (newP h))]) (Fr.sub_cons (by kernel_rfl) (Fr.sub_cons (by kernel_rfl) (Fr.sub_nil _))) ?_
  refine n5 ?_
  refine W.seqK (by kernel_rfl) (fun K8 n8 e8 r8 p8 => ?_)
  refine W.seqK (by kernel_rfl) (fun K9 n9 e9 r9 p9 => ?_)
  refine W.region (by kernel_rfl) ?_
  refine WL.val (d := (some 6)) (v := strA t0) (h' := h_6) (by kernel_rfl) (by kernel_rfl) (by kernel_rfl) ?_
  refine WL.val (d := (some 7)) (v := .int .i64 (lenS t0)) (h' := h_6) (by kernel_rfl) (by kernel_rfl) (by kernel_rfl) ?_
  refine WL.val (d := (some 8)) (v := .int .i64 0) (h' := h_6) (by kernel_rfl) (by kernel_rfl) (by kernel_rfl) ?_
  refine WL.nil (by kernel_rfl) ?_
  refine Go.weaken (l' := [(0, strA t0), (3, (newP h)), (7, .int .i64 (lenS t0)), (8, .int .i64 0)]) (Fr.sub_cons (by kernel_rfl) (Fr.sub_cons (by kernel_rfl) (Fr.sub_cons (by kernel_rfl) (Fr.sub_cons (by kernel_rfl) (Fr.sub_nil _))))) ?_
  refine n9 ?_
  replace hF := lett_some hF; obtain ⟨k11, e11, hF⟩ := hF
  have J11 : ∀  (h_12 : AHeap), k11 h_12 = some (rR, hR) → Go w0 m0 (Func.ntmps Try.f15) (K8 .normal) [(3, (newP h))] [] h_12 := by
    intro  h_12 hF
    rw [e11] at hF
    refine n8 ?_
    refine W.seqK (by kernel_rfl) (fun K13 n13 e13 r13 p13 => ?_)
    refine W.region (by kernel_rfl) ?_
    replace hF := callN_some hF; obtain ⟨r16, h_14, e15, hF⟩ := hF
    refine WL.call (hc.ok w0) (d := (some 16)) (by kernel_rfl) (by kernel_rfl) (by kernel_rfl) e15 ?_
    refine WL.nil (by kernel_rfl) ?_
    refine Go.weaken (l' := [(3, (newP h))]) (Fr.sub_cons (by kernel_rfl) (Fr.sub_nil _)) ?_
    refine n13 ?_
    refine W.seqK (by kernel_rfl) (fun K16 n16 e16 r16 p16 => ?_)
    refine W.region (by kernel_rfl) ?_
    replace hF := callN_some hF; obtain ⟨r17, h_17, e18, hF⟩ := hF
    replace hF := obind_some hF; obtain ⟨t17, c19, hF⟩ := hF
    have c19 := avStr_some c19
    subst c19
    refine WL.call (hc.ok w0) (d := (some 17)) (by kernel_rfl) (by kernel_rfl) (by kernel_rfl) e18 ?_
    refine WL.val (d := (some 2)) (v := strA t17) (h' := h_17) (by kernel_rfl) (by kernel_rfl) (by kernel_rfl) ?_
    refine WL.nil (by kernel_rfl) ?_
    refine Go.weaken (l' := [(2, strA t17)]) (Fr.sub_cons (by kernel_rfl) (Fr.sub_nil _)) ?_
    refine n16 ?_
    refine W.ret (by kernel_rfl) ?_
    obtain ⟨hF, hF2⟩ := ret_inj hF; subst hF; subst hF2
    exact leave_of (rs := [.tmp 2]) (vs := [strA t17]) (by kernel_rfl) (res_tmp (by kernel_rfl) res_nil) (by kernel_rfl)
  refine W.blockK (by kernel_rfl) (fun K10 n10 s10 o10 r10 p10 => ?_)
  refine W.loopK (by kernel_rfl) (fun I20 K20 b20 n20 e20 r20 p20 => ?_)
  have L20 : ∀ (m : Nat) (t8 : Int) (h_21 : AHeap), pattern_Quote_L0 call t0 h k11 m t8 h_21 = some (rR, hR) → Go w0 m0 (Func.ntmps Try.f15) I20 [(0, strA t0), (3, (newP h)), (7, .int .i64 (lenS t0)), (8, .int .i64 t8)] [] h_21 := by
    intro m
    induction m with
    | zero => intro t8 h_21 hF; cases hF
    | succ m ih20 =>
      intro t8 h_21 hF
      rw [pattern_Quote_L0_s] at hF; unfold pattern_Quote_L0b at hF
      refine b20 ?_
      refine W.seqK (by kernel_rfl) (fun K22 n22 e22 r22 p22 => ?_)
      refine W.region (by kernel_rfl) ?_
      replace hF := lett_some hF; obtain ⟨t9, e23, hF⟩ := hF
      refine WL.val (d := (some 9)) (v := .bool t9) (h' := h_21) (by kernel_rfl) (by kernel_rfl) (val_of AV.bool e23 (by kernel_rfl)) ?_
      refine WL.nil (by kernel_rfl) ?_
      refine Go.weaken (l' := [(0, strA t0), (3, (newP h)), (7, .int .i64 (lenS t0)), (8, .int .i64 t8), (9, .bool t9)]) (Fr.sub_cons (by kernel_rfl) (Fr.sub_cons (by kernel_rfl) (Fr.sub_cons (by kernel_rfl) (Fr.sub_cons (by kernel_rfl) (Fr.sub_cons (by kernel_rfl) (Fr.sub_nil _)))))) ?_
      refine n22 ?_
      refine W.seqK (by kernel_rfl) (fun K24 n24 e24 r24 p24 => ?_)
      cases t9 with
      | true =>
        replace hF := ifB_t hF
        refine W.cond_true (by kernel_rfl) (by kernel_rfl) ?_
        refine W.skip (by kernel_rfl) ?_
        refine n24 ?_
        refine W.seqK (by kernel_rfl) (fun K25 n25 e25 r25 p25 => ?_)
        refine W.blockK (by kernel_rfl) (fun K26 n26 s26 o26 r26 p26 => ?_)
        refine W.seqK (by kernel_rfl) (fun K27 n27 e27 r27 p27 => ?_)
        refine W.region (by kernel_rfl) ?_
        refine WL.val (d := (some 10)) (v := .int .i64 t8) (h' := h_21) (by kernel_rfl) (by kernel_rfl) (by kernel_rfl) ?_
        refine WL.val (d := (some 4)) (v := .int .i64 t8) (h' := h_21) (by kernel_rfl) (by kernel_rfl) (by kernel_rfl) ?_
        refine WL.nil (by kernel_rfl) ?_
        refine Go.weaken (l' := [(0, strA t0), (3, (newP h)), (4, .int .i64 t8), (7, .int .i64 (lenS t0)), (8, .int .i64 t8)]) (Fr.sub_cons (by kernel_rfl) (Fr.sub_cons (by kernel_rfl) (Fr.sub_cons (by kernel_rfl) (Fr.sub_cons (by kernel_rfl) (Fr.sub_cons (by kernel_rfl) (Fr.sub_nil _)))))) ?_
        refine n27 ?_
        refine W.region (by kernel_rfl) ?_
        refine WL.val (d := (some 11)) (v := strA t0) (h' := h_21) (by kernel_rfl) (by kernel_rfl) (by kernel_rfl) ?_
        refine WL.val (d := (some 12)) (v := .int .i64 t8) (h' := h_21) (by kernel_rfl) (by kernel_rfl) (by kernel_rfl) ?_
        replace hF := obind_some hF; obtain ⟨t13, e28, hF⟩ := hF
        refine WL.val (d := (some 13)) (v := .int .u8 t13) (h' := h_21) (by kernel_rfl) (by kernel_rfl) (Eq.trans (by kernel_rfl) (index_str (P := Try.prog) (h := h_21) (t := 9) (k := .i64) (by kernel_rfl) e28)) ?_
        replace hF := callN_some hF; obtain ⟨r14, h_29, e30, hF⟩ := hF
        refine WL.call (hc.ok w0) (d := (some 14)) (by kernel_rfl) (by kernel_rfl) (by kernel_rfl) e30 ?_
        refine WL.nil (by kernel_rfl) ?_
        refine Go.weaken (l' := [(0, strA t0), (3, (newP h)), (7, .int .i64 (lenS t0)), (8, .int .i64 t8)]) (Fr.sub_cons (by kernel_rfl) (Fr.sub_cons (by kernel_rfl) (Fr.sub_cons (by kernel_rfl) (Fr.sub_cons (by kernel_rfl) (Fr.sub_nil _))))) ?_
        refine n26 ?_
        refine n25 ?_
        refine W.region (by kernel_rfl) ?_
        replace hF := lett_some hF; obtain ⟨t15, e31, hF⟩ := hF
        refine WL.val (d := (some 15)) (v := .int .i64 t15) (h' := h_29) (by kernel_rfl) (by kernel_rfl) (val_of (AV.int .i64) e31 (by kernel_rfl)) ?_
        refine WL.val (d := (some 8)) (v := .int .i64 t15) (h' := h_29) (by kernel_rfl) (by kernel_rfl) (by kernel_rfl) ?_
        refine WL.nil (by kernel_rfl) ?_
        refine Go.weaken (l' := [(0, strA t0), (3, (newP h)), (7, .int .i64 (lenS t0)), (8, .int .i64 t15)]) (Fr.sub_cons (by kernel_rfl) (Fr.sub_cons (by kernel_rfl) (Fr.sub_cons (by kernel_rfl) (Fr.sub_cons (by kernel_rfl) (Fr.sub_nil _))))) ?_
        refine n20 ?_
        exact Go.weaken (Fr.sub_cons (by kernel_rfl) (Fr.sub_cons (by kernel_rfl) (Fr.sub_cons (by kernel_rfl) (Fr.sub_cons (by kernel_rfl) (Fr.sub_nil _))))) (ih20 _ _ hF)
      | false =>
        replace hF := ifB_f hF
        refine W.cond_false (by kernel_rfl) (by kernel_rfl) ?_
        refine W.exit (by kernel_rfl) ?_
        refine e24 ?_
        refine e20 ?_
        refine s10 (by kernel_rfl) ?_
        exact Go.weaken (Fr.sub_cons (by kernel_rfl) (Fr.sub_nil _)) (J11 _ hF)
  exact Go.weaken (Fr.sub_cons (by kernel_rfl) (Fr.sub_cons (by kernel_rfl) (Fr.sub_cons (by kernel_rfl) (Fr.sub_cons (by kernel_rfl) (Fr.sub_nil _))))) (L20 _ _ _ hF)
noncomputable def pattern_Quote_fn (call : CallF) (n : Nat) : FnT := fun args h => match args with
  | [x0] => obind (avStr x0) fun t0 => pattern_Quote call n t0 h
  | _ => none
set_option maxRecDepth 100000 in
theorem pattern_Quote_fn_eq (call : CallF) (n : Nat) (t0 : Bytes) (h : AHeap) : pattern_Quote_fn call n [strA t0] h = pattern_Quote call n t0 h :=
  (Eq.trans (obind_eq (fun t0 => pattern_Quote call n t0 h) (avStr_str t0)) rfl)
theorem pattern_Quote_holds {call : CallF} (hc : SaysAll Try.prog call) (n : Nat) : Holds Try.prog 15 (pattern_Quote_fn call n) := by
  intro args h r h2 e
  unfold pattern_Quote_fn at e
  split at e
  · replace e := obind_some e; obtain ⟨t0, c0, e⟩ := e; have c0 := avStr_some c0; subst c0
    exact pattern_Quote_ok hc e
  · cases e

noncomputable def pattern_writeForm (call : CallF) (_ : Nat) (t0 : AV) (t1 : Int) (h : AHeap) : R :=
  callN (call 50 [.int .u8 t1] h) fun r6 h_3 =>
  obind (avInt .u8 r6) fun t6 =>
  lett ((t6 : Int) != 0) fun (t8 : Bool) =>
  ifB t8
  (
    callN (call 29 [t0, .int .u8 92] h_3) fun _ h_9 =>
    callN (call 29 [t0, .int .u8 t6] h_9) fun _ h_12 =>
    some (.ret (.tup []), h_12))
  (
    callN (call 51 [.int .u8 t1] h_3) fun r15 h_16 =>
    obind (avBool r15) fun t15 =>
    ifB t15
    (
      callN (call 29 [t0, .int .u8 t1] h_16) fun _ h_20 =>
      some (.ret (.tup []), h_20))
    (
      callN (call 52 [t0, strA ([92, 120] : Bytes)] h_16) fun _ h_23 =>
      obind (shrI .u8 t1 4) fun t23 =>
      obind (idxS ([48, 49, 50, 51, 52, 53, 54, 55, 56, 57, 97, 98, 99, 100, 101, 102] : Bytes) t23) fun t24 =>
      callN (call 29 [t0, .int .u8 t24] h_23) fun _ h_28 =>
      lett (andI .u8 t1 15) fun (t28 : Int) =>
      obind (idxS ([48, 49, 50, 51, 52, 53, 54, 55, 56, 57, 97, 98, 99, 100, 101, 102] : Bytes) t28) fun t29 =>
      callN (call 29 [t0, .int .u8 t29] h_28) fun _ h_32 =>
      some (.ret (.tup []), h_32)))
set_option maxHeartbeats 4000000 in
set_option maxRecDepth 20000 in
theorem pattern_writeForm_ok {call : CallF} (hc : SaysAll Try.prog call) {n : Nat} {t0 : AV} {t1 : Int} {h : AHeap} {rR : ARes} {hR : AHeap} (hF : pattern_writeForm call n t0 t1 h = some (rR, hR)) : Says Try.prog 30 [t0, .int .u8 t1] h rR hR := by
  unfold pattern_writeForm at hF
  refine says_of (fn := Try.f30) Try.func30 (c := codeOf Try.f30) (by kernel_rfl) (by kernel_rfl) (fun w0 m0 => ?_)
  refine W.weaken (l' := [(0, t0), (1, .int .u8 t1)]) (Fr.sub_cons (by kernel_rfl) (Fr.sub_cons (by kernel_rfl) (Fr.sub_nil _))) ?_
  refine W.seqK (by kernel_rfl) (fun K1 n1 e1 r1 p1 => ?_)
  refine W.seqK (by kernel_rfl) (fun K2 n2 e2 r2 p2 => ?_)
  refine W.region (by kernel_rfl) ?_
  refine WL.val (d := (some 5)) (v := .int .u8 t1) (h' := h) (by kernel_rfl) (by kernel_rfl) (by kernel_rfl) ?_
  replace hF := callN_some hF; obtain ⟨r6, h_3, e4, hF⟩ := hF
  replace hF := obind_some hF; obtain ⟨t6, c5, hF⟩ := hF
  have c5 := avInt_some c5
  subst c5
  refine WL.call (hc.ok w0) (d := (some 6)) (by kernel_rfl) (by kernel_rfl) (by kernel_rfl) e4 ?_
  refine WL.val (d := (some 4)) (v := .int .u8 t6) (h' := h_3) (by kernel_rfl) (by kernel_rfl) (by kernel_rfl) ?_
  refine WL.nil (by kernel_rfl) ?_
  refine Go.weaken (l' := [(0, t0), (1, .int .u8 t1), (4, .int .u8 t6)]) (Fr.sub_cons (by kernel_rfl) (Fr.sub_cons (by kernel_rfl) (Fr.sub_cons (by kernel_rfl) (Fr.sub_nil _)))) ?_
  refine n2 ?_
  refine W.seqK (by kernel_rfl) (fun K6 n6 e6 r6 p6 => ?_)
  refine W.region (by kernel_rfl) ?_
  refine WL.val (d := (some 7)) (v := .int .u8 t6) (h' := h_3) (by kernel_rfl) (by kernel_rfl) (by kernel_rfl) ?_
  replace hF := lett_some hF; obtain ⟨t8, e7, hF⟩ := hF
  refine WL.val (d := (some 8)) (v := .bool t8) (h' := h_3) (by kernel_rfl) (by kernel_rfl) (val_of AV.bool e7 (by kernel_rfl)) ?_
  refine WL.nil (by kernel_rfl) ?_
  refine Go.weaken (l' := [(0, t0), (1, .int .u8 t1), (4, .int .u8 t6), (8, .bool t8)]) (Fr.sub_cons (by kernel_rfl) (Fr.sub_cons (by kernel_rfl) (Fr.sub_cons (by kernel_rfl) (Fr.sub_cons (by kernel_rfl) (Fr.sub_nil _))))) ?_
  refine n6 ?_
  cases t8 with
  | true =>
    replace hF := ifB_t hF
    refine W.cond_true (by kernel_rfl) (by kernel_rfl) ?_
    refine W.seqK (by kernel_rfl) (fun K8 n8 e8 r8 p8 => ?_)
    refine W.region (by kernel_rfl) ?_
    refine WL.val (d := (some 9)) (v := t0) (h' := h_3) (by kernel_rfl) (by kernel_rfl) (by kernel_rfl) ?_
    replace hF := callN_some hF; obtain ⟨r10, h_9, e10, hF⟩ := hF
    refine WL.call (hc.ok w0) (d := (some 10)) (by kernel_rfl) (by kernel_rfl) (by kernel_rfl) e10 ?_
    refine WL.nil (by kernel_rfl) ?_
    refine Go.weaken (l' := [(0, t0), (4, .int .u8 t6)]) (Fr.sub_cons (by kernel_rfl) (Fr.sub_cons (by kernel_rfl) (Fr.sub_nil _))) ?_
    refine n8 ?_
    refine W.seqK (by kernel_rfl) (fun K11 n11 e11 r11 p11 => ?_)
    refine W.region (by kernel_rfl) ?_
    refine WL.val (d := (some 11)) (v := t0) (h' := h_9) (by kernel_rfl) (by kernel_rfl) (by kernel_rfl) ?_
    refine WL.val (d := (some 12)) (v := .int .u8 t6) (h' := h_9) (by kernel_rfl) (by kernel_rfl) (by kernel_rfl) ?_
    replace hF := callN_some hF; obtain ⟨r13, h_12, e13, hF⟩ := hF
    refine WL.call (hc.ok w0) (d := (some 13)) (by kernel_rfl) (by kernel_rfl) (by kernel_rfl) e13 ?_
    refine WL.nil (by kernel_rfl) ?_
    refine Go.weaken (l' := []) (Fr.sub_nil _) ?_
    refine n11 ?_
    refine W.ret (by kernel_rfl) ?_
    refine r1 ?_
    obtain ⟨hF, hF2⟩ := ret_inj hF; subst hF; subst hF2
    exact leave_of (rs := []) (vs := []) (by kernel_rfl) res_nil (by kernel_rfl)
  | false =>
    replace hF := ifB_f hF
    refine W.cond_false (by kernel_rfl) (by kernel_rfl) ?_
    refine W.skip (by kernel_rfl) ?_
    refine n1 ?_
    refine W.seqK (by kernel_rfl) (fun K14 n14 e14 r14 p14 => ?_)
    refine W.seqK (by kernel_rfl) (fun K15 n15 e15 r15 p15 => ?_)
    refine W.region (by kernel_rfl) ?_
    refine WL.val (d := (some 14)) (v := .int .u8 t1) (h' := h_3) (by kernel_rfl) (by kernel_rfl) (by kernel_rfl) ?_
    replace hF := callN_some hF; obtain ⟨r15, h_16, e17, hF⟩ := hF
    replace hF := obind_some hF; obtain ⟨t15, c18, hF⟩ := hF
    have c18 := avBool_some c18
    subst c18
    refine WL.call (hc.ok w0) (d := (some 15)) (by kernel_rfl) (by kernel_rfl) (by kernel_rfl) e17 ?_
    refine WL.nil (by kernel_rfl) ?_
    refine Go.weaken (l' := [(0, t0), (1, .int .u8 t1), (15, .bool t15)]) (Fr.sub_cons (by kernel_rfl) (Fr.sub_cons (by kernel_rfl) (Fr.sub_cons (by kernel_rfl) (Fr.sub_nil _)))) ?_
    refine n15 ?_
    cases t15 with
    | true =>
      replace hF := ifB_t hF
      refine W.cond_true (by kernel_rfl) (by kernel_rfl) ?_
      refine W.seqK (by kernel_rfl) (fun K19 n19 e19 r19 p19 => ?_)
      refine W.region (by kernel_rfl) ?_
      refine WL.val (d := (some 16)) (v := t0) (h' := h_16) (by kernel_rfl) (by kernel_rfl) (by kernel_rfl) ?_
      refine WL.val (d := (some 17)) (v := .int .u8 t1) (h' := h_16) (by kernel_rfl) (by kernel_rfl) (by kernel_rfl) ?_
      replace hF := callN_some hF; obtain ⟨r18, h_20, e21, hF⟩ := hF
      refine WL.call (hc.ok w0) (d := (some 18)) (by kernel_rfl) (by kernel_rfl) (by kernel_rfl) e21 ?_
      refine WL.nil (by kernel_rfl) ?_
      refine Go.weaken (l' := []) (Fr.sub_nil _) ?_
      refine n19 ?_
      refine W.ret (by kernel_rfl) ?_
      refine r14 ?_
      obtain ⟨hF, hF2⟩ := ret_inj hF; subst hF; subst hF2
      exact leave_of (rs := []) (vs := []) (by kernel_rfl) res_nil (by kernel_rfl)
    | false =>
      replace hF := ifB_f hF
      refine W.cond_false (by kernel_rfl) (by kernel_rfl) ?_
      refine W.skip (by kernel_rfl) ?_
      refine n14 ?_
      refine W.seqK (by kernel_rfl) (fun K22 n22 e22 r22 p22 => ?_)
      refine W.region (by kernel_rfl) ?_
      refine WL.val (d := (some 19)) (v := t0) (h' := h_16) (by kernel_rfl) (by kernel_rfl) (by kernel_rfl) ?_
      replace hF := callN_some hF; obtain ⟨r20, h_23, e24, hF⟩ := hF
      refine WL.call (hc.ok w0) (d := (some 20)) (by kernel_rfl) (by kernel_rfl) (by kernel_rfl) e24 ?_
      refine WL.nil (by kernel_rfl) ?_
      refine Go.weaken (l' := [(0, t0), (1, .int .u8 t1)]) (Fr.sub_cons (by kernel_rfl) (Fr.sub_cons (by kernel_rfl) (Fr.sub_nil _))) ?_
      refine n22 ?_
      refine W.seqK (by kernel_rfl) (fun K25 n25 e25 r25 p25 => ?_)
      refine W.region (by kernel_rfl) ?_
      refine WL.val (d := (some 21)) (v := t0) (h' := h_23) (by kernel_rfl) (by kernel_rfl) (by kernel_rfl) ?_
      refine WL.val (d := (some 22)) (v := .int .u8 t1) (h' := h_23) (by kernel_rfl) (by kernel_rfl) (by kernel_rfl) ?_
      replace hF := obind_some hF; obtain ⟨t23, e26, hF⟩ := hF
      refine WL.val (d := (some 23)) (v := .int .u8 t23) (h' := h_23) (by kernel_rfl) (by kernel_rfl) (Eq.trans (by kernel_rfl) (shr_int (P := Try.prog) (h := h_23) (t := 5) (k' := .u64) (lit := true) e26)) ?_
      replace hF := obind_some hF; obtain ⟨t24, e27, hF⟩ := hF
      refine WL.val (d := (some 24)) (v := .int .u8 t24) (h' := h_23) (by kernel_rfl) (by kernel_rfl) (Eq.trans (by kernel_rfl) (index_str (P := Try.prog) (h := h_23) (t := 9) (k := .u8) (by kernel_rfl) e27)) ?_
      replace hF := callN_some hF; obtain ⟨r25, h_28, e29, hF⟩ := hF
      refine WL.call (hc.ok w0) (d := (some 25)) (by kernel_rfl) (by kernel_rfl) (by kernel_rfl) e29 ?_
      refine WL.nil (by kernel_rfl) ?_
      refine Go.weaken (l' := [(0, t0), (1, .int .u8 t1)]) (Fr.sub_cons (by kernel_rfl) (Fr.sub_cons (by kernel_rfl) (Fr.sub_nil _))) ?_
      refine n25 ?_
      refine W.region (by kernel_rfl) ?_
      refine WL.val (d := (some 26)) (v := t0) (h' := h_28) (by kernel_rfl) (by kernel_rfl) (by kernel_rfl) ?_
      refine WL.val (d := (some 27)) (v := .int .u8 t1) (h' := h_28) (by kernel_rfl) (by kernel_rfl) (by kernel_rfl) ?_
      replace hF := lett_some hF; obtain ⟨t28, e30, hF⟩ := hF
      refine WL.val (d := (some 28)) (v := .int .u8 t28) (h' := h_28) (by kernel_rfl) (by kernel_rfl) (val_of (AV.int .u8) e30 (by kernel_rfl)) ?_
      replace hF := obind_some hF; obtain ⟨t29, e31, hF⟩ := hF
      refine WL.val (d := (some 29)) (v := .int .u8 t29) (h' := h_28) (by kernel_rfl) (by kernel_rfl) (Eq.trans (by kernel_rfl) (index_str (P := Try.prog) (h := h_28) (t := 9) (k := .u8) (by kernel_rfl) e31)) ?_
      replace hF := callN_some hF; obtain ⟨r30, h_32, e33, hF⟩ := hF
      refine WL.call (hc.ok w0) (d := (some 30)) (by kernel_rfl) (by kernel_rfl) (by kernel_rfl) e33 ?_
      refine WL.nil (by kernel_rfl) ?_
      refine Go.weaken (l' := []) (Fr.sub_nil _) ?_
      obtain ⟨hF, hF2⟩ := ret_inj hF; subst hF; subst hF2
      exact leaveN_of (rs := []) (vs := []) (by kernel_rfl) res_nil (by kernel_rfl)
noncomputable def pattern_writeForm_fn (call : CallF) (n : Nat) : FnT := fun args h => match args with
  | [x0, x1] => obind (avInt .u8 x1) fun t1 => pattern_writeForm call n x0 t1 h
  | _ => none
set_option maxRecDepth 100000 in
theorem pattern_writeForm_fn_eq (call : CallF) (n : Nat) (t0 : AV) (t1 : Int) (h : AHeap) : pattern_writeForm_fn call n [t0, .int .u8 t1] h = pattern_writeForm call n t0 t1 h :=
  (Eq.trans (obind_eq (fun t1 => pattern_writeForm call n t0 t1 h) (avInt_int .u8 t1)) rfl)
theorem pattern_writeForm_holds {call : CallF} (hc : SaysAll Try.prog call) (n : Nat) : Holds Try.prog 30 (pattern_writeForm_fn call n) := by
  intro args h r h2 e
  unfold pattern_writeForm_fn at e
  split at e
  · replace e := obind_some e; obtain ⟨t1, c1, e⟩ := e; have c1 := avInt_some c1; subst c1
    exact pattern_writeForm_ok hc e
  · cases e

noncomputable def pattern_plain (_ : CallF) (_ : Nat) (t0 : Int) (h : AHeap) : R :=
  lett (decide (t0 ≥ 32)) fun (t4 : Bool) =>
  lett (fun (t8 : Bool) (h_4 : AHeap) =>
    some (.ret (.bool t8), h_4)) fun j8 =>
  ifB t4
  (
    lett (decide (t0 ≤ 126)) fun (t7 : Bool) =>
    j8 t7 h)
  (
    j8 false h)
set_option maxHeartbeats 4000000 in
set_option maxRecDepth 20000 in
theorem pattern_plain_ok {call : CallF} (_ : SaysAll Try.prog call) {n : Nat} {t0 : Int} {h : AHeap} {rR : ARes} {hR : AHeap} (hF : pattern_plain call n t0 h = some (rR, hR)) : Says Try.prog 51 [.int .u8 t0] h rR hR := by
  unfold pattern_plain at hF
  refine says_of (fn := Try.f51) Try.func51 (c := codeOf Try.f51) (by kernel_rfl) (by kernel_rfl) (fun w0 m0 => ?_)
  refine W.weaken (l' := [(0, .int .u8 t0)]) (Fr.sub_cons (by kernel_rfl) (Fr.sub_nil _)) ?_
  refine W.seqK (by kernel_rfl) (fun K1 n1 e1 r1 p1 => ?_)
  refine W.region (by kernel_rfl) ?_
  refine WL.val (d := (some 2)) (v := .bool false) (h' := h) (by kernel_rfl) (by kernel_rfl) (by kernel_rfl) ?_
  refine WL.nil (by kernel_rfl) ?_
  refine Go.weaken (l' := [(0, .int .u8 t0)]) (Fr.sub_cons (by kernel_rfl) (Fr.sub_nil _)) ?_
  refine n1 ?_
  refine W.seqK (by kernel_rfl) (fun K2 n2 e2 r2 p2 => ?_)
  refine W.region (by kernel_rfl) ?_
  refine WL.val (d := (some 3)) (v := .int .u8 t0) (h' := h) (by kernel_rfl) (by kernel_rfl) (by kernel_rfl) ?_
  replace hF := lett_some hF; obtain ⟨t4, e3, hF⟩ := hF
  refine WL.val (d := (some 4)) (v := .bool t4) (h' := h) (by kernel_rfl) (by kernel_rfl) (val_of AV.bool e3 (by kernel_rfl)) ?_
  refine WL.val (d := (some 5)) (v := .bool t4) (h' := h) (by kernel_rfl) (by kernel_rfl) (by kernel_rfl) ?_
  replace hF := lett_some hF; obtain ⟨j8, e5, hF⟩ := hF
  have J6 : ∀ (t8 : Bool) (h_4 : AHeap), j8 t8 h_4 = some (rR, hR) → WL Try.prog w0 m0 (Func.ntmps Try.f51) (Code.ops (Code.p1 (Code.p2 (codeOf Try.f51)))) 6 K2 [(8, .bool t8)] [] h_4 := by
    intro t8 h_4 hF
    rw [e5] at hF
    refine WL.val (d := (some 2)) (v := .bool t8) (h' := h_4) (by kernel_rfl) (by kernel_rfl) (by kernel_rfl) ?_
    refine WL.nil (by kernel_rfl) ?_
    refine Go.weaken (l' := [(2, .bool t8)]) (Fr.sub_cons (by kernel_rfl) (Fr.sub_nil _)) ?_
    refine n2 ?_
    refine W.ret (by kernel_rfl) ?_
    obtain ⟨hF, hF2⟩ := ret_inj hF; subst hF; subst hF2
    exact leave_of (rs := [.tmp 2]) (vs := [.bool t8]) (by kernel_rfl) (res_tmp (by kernel_rfl) res_nil) (by kernel_rfl)
  cases t4 with
  | true =>
    replace hF := ifB_t hF
    refine WL.val (d := (some 6)) (v := .int .u8 t0) (h' := h) (by kernel_rfl) (by kernel_rfl) (by kernel_rfl) ?_
    replace hF := lett_some hF; obtain ⟨t7, e7, hF⟩ := hF
    refine WL.val (d := (some 7)) (v := .bool t7) (h' := h) (by kernel_rfl) (by kernel_rfl) (val_of AV.bool e7 (by kernel_rfl)) ?_
    refine WL.val (d := (some 8)) (v := .bool t7) (h' := h) (by kernel_rfl) (by kernel_rfl) (by kernel_rfl) ?_
    exact WL.weaken (Fr.sub_cons (by kernel_rfl) (Fr.sub_nil _)) (J6 _ _ hF)
  | false =>
    replace hF := ifB_f hF
    refine WL.not (d := (some 6)) (by kernel_rfl) (by kernel_rfl) ?_
    refine WL.not (d := (some 7)) (by kernel_rfl) (by kernel_rfl) ?_
    refine WL.val (d := (some 8)) (v := .bool false) (h' := h) (by kernel_rfl) (by kernel_rfl) (by kernel_rfl) ?_
    exact WL.weaken (Fr.sub_cons (by kernel_rfl) (Fr.sub_nil _)) (J6 _ _ hF)
noncomputable def pattern_plain_fn (call : CallF) (n : Nat) : FnT := fun args h => match args with
  | [x0] => obind (avInt .u8 x0) fun t0 => pattern_plain call n t0 h
  | _ => none
set_option maxRecDepth 100000 in
theorem pattern_plain_fn_eq (call : CallF) (n : Nat) (t0 : Int) (h : AHeap) : pattern_plain_fn call n [.int .u8 t0] h = pattern_plain call n t0 h :=
  (Eq.trans (obind_eq (fun t0 => pattern_plain call n t0 h) (avInt_int .u8 t0)) rfl)
theorem pattern_plain_holds {call : CallF} (hc : SaysAll Try.prog call) (n : Nat) : Holds Try.prog 51 (pattern_plain_fn call n) := by
  intro args h r h2 e
  unfold pattern_plain_fn at e
  split at e
  · replace e := obind_some e; obtain ⟨t0, c0, e⟩ := e; have c0 := avInt_some c0; subst c0
    exact pattern_plain_ok hc e
  · cases e

noncomputable def pattern_short (_ : CallF) (_ : Nat) (t0 : Int) (h : AHeap) : R :=
  lett ((t0 : Int) == 34) fun (t5 : Bool) =>
  lett (fun (t4 : Bool) (h_9 : AHeap) =>
    ifB t4
    (
      some (.ret (.int .u8 t0), h_9))
    (
      lett ((t0 : Int) == 10) fun (t9 : Bool) =>
      ifB t9
      (
        some (.ret (.int .u8 110), h_9))
      (
        lett ((t0 : Int) == 13) fun (t11 : Bool) =>
        ifB t11
        (
          some (.ret (.int .u8 114), h_9))
        (
          lett ((t0 : Int) == 9) fun (t13 : Bool) =>
          ifB t13
          (
            some (.ret (.int .u8 116), h_9))
          (
            some (.ret (.int .u8 0), h_9)))))) fun k8 =>
  ifB t5
  (
    k8 true h)
  (
    lett ((t0 : Int) == 92) fun (t6 : Bool) =>
    k8 t6 h)
set_option maxHeartbeats 4000000 in
set_option maxRecDepth 20000 in
theorem pattern_short_ok {call : CallF} (_ : SaysAll Try.prog call) {n : Nat} {t0 : Int} {h : AHeap} {rR : ARes} {hR : AHeap} (hF : pattern_short call n t0 h = some (rR, hR)) : Says Try.prog 50 [.int .u8 t0] h rR hR := by
  unfold pattern_short at hF
  refine says_of (fn := Try.f50) Try.func50 (c := codeOf Try.f50) (by kernel_rfl) (by kernel_rfl) (fun w0 m0 => ?_)
  refine W.weaken (l' := [(0, .int .u8 t0)]) (Fr.sub_cons (by kernel_rfl) (Fr.sub_nil _)) ?_
  refine W.seqK (by kernel_rfl) (fun K1 n1 e1 r1 p1 => ?_)
  refine W.region (by kernel_rfl) ?_
  refine WL.val (d := (some 2)) (v := .int .u8 0) (h' := h) (by kernel_rfl) (by kernel_rfl) (by kernel_rfl) ?_
  refine WL.nil (by kernel_rfl) ?_
  refine Go.weaken (l' := [(0, .int .u8 t0)]) (Fr.sub_cons (by kernel_rfl) (Fr.sub_nil _)) ?_
  refine n1 ?_
  refine W.seqK (by kernel_rfl) (fun K2 n2 e2 r2 p2 => ?_)
  refine W.seqK (by kernel_rfl) (fun K3 n3 e3 r3 p3 => ?_)
  refine W.region (by kernel_rfl) ?_
  refine WL.val (d := (some 3)) (v := .int .u8 t0) (h' := h) (by kernel_rfl) (by kernel_rfl) (by kernel_rfl) ?_
  refine WL.nil (by kernel_rfl) ?_
  refine Go.weaken (l' := [(0, .int .u8 t0), (3, .int .u8 t0)]) (Fr.sub_cons (by kernel_rfl) (Fr.sub_cons (by kernel_rfl) (Fr.sub_nil _))) ?_
  refine n3 ?_
  refine W.blockK (by kernel_rfl) (fun K4 n4 s4 o4 r4 p4 => ?_)
  refine W.seqK (by kernel_rfl) (fun K5 n5 e5 r5 p5 => ?_)
  refine W.seqK (by kernel_rfl) (fun K6 n6 e6 r6 p6 => ?_)
  refine W.region (by kernel_rfl) ?_
  replace hF := lett_some hF; obtain ⟨t5, e7, hF⟩ := hF
  refine WL.val (d := (some 5)) (v := .bool t5) (h' := h) (by kernel_rfl) (by kernel_rfl) (val_of AV.bool e7 (by kernel_rfl)) ?_
  refine WL.val (d := (some 4)) (v := .bool t5) (h' := h) (by kernel_rfl) (by kernel_rfl) (by kernel_rfl) ?_
  refine WL.nil (by kernel_rfl) ?_
  refine Go.weaken (l' := [(0, .int .u8 t0), (3, .int .u8 t0), (4, .bool t5)]) (Fr.sub_cons (by kernel_rfl) (Fr.sub_cons (by kernel_rfl) (Fr.sub_cons (by kernel_rfl) (Fr.sub_nil _)))) ?_
  refine n6 ?_
  replace hF := lett_some hF; obtain ⟨k8, e8, hF⟩ := hF
  have J8 : ∀ (t4 : Bool) (h_9 : AHeap), k8 t4 h_9 = some (rR, hR) → Go w0 m0 (Func.ntmps Try.f50) (K5 .normal) [(0, .int .u8 t0), (3, .int .u8 t0), (4, .bool t4)] [] h_9 := by
    intro t4 h_9 hF
    rw [e8] at hF
    refine n5 ?_
    cases t4 with
    | true =>
      replace hF := ifB_t hF
      refine W.cond_true (by kernel_rfl) (by kernel_rfl) ?_
      refine W.seqK (by kernel_rfl) (fun K10 n10 e10 r10 p10 => ?_)
      refine W.region (by kernel_rfl) ?_
      refine WL.val (d := (some 7)) (v := .int .u8 t0) (h' := h_9) (by kernel_rfl) (by kernel_rfl) (by kernel_rfl) ?_
      refine WL.val (d := (some 2)) (v := .int .u8 t0) (h' := h_9) (by kernel_rfl) (by kernel_rfl) (by kernel_rfl) ?_
      refine WL.nil (by kernel_rfl) ?_
      refine Go.weaken (l' := [(2, .int .u8 t0)]) (Fr.sub_cons (by kernel_rfl) (Fr.sub_nil _)) ?_
      refine n10 ?_
      refine W.ret (by kernel_rfl) ?_
      refine r4 ?_
      refine r2 ?_
      obtain ⟨hF, hF2⟩ := ret_inj hF; subst hF; subst hF2
      exact leave_of (rs := [.tmp 2]) (vs := [.int .u8 t0]) (by kernel_rfl) (res_tmp (by kernel_rfl) res_nil) (by kernel_rfl)
    | false =>
      replace hF := ifB_f hF
      refine W.cond_false (by kernel_rfl) (by kernel_rfl) ?_
      refine W.seqK (by kernel_rfl) (fun K11 n11 e11 r11 p11 => ?_)
      refine W.region (by kernel_rfl) ?_
      replace hF := lett_some hF; obtain ⟨t9, e12, hF⟩ := hF
      refine WL.val (d := (some 9)) (v := .bool t9) (h' := h_9) (by kernel_rfl) (by kernel_rfl) (val_of AV.bool e12 (by kernel_rfl)) ?_
      refine WL.val (d := (some 8)) (v := .bool t9) (h' := h_9) (by kernel_rfl) (by kernel_rfl) (by kernel_rfl) ?_
      refine WL.nil (by kernel_rfl) ?_
      refine Go.weaken (l' := [(3, .int .u8 t0), (8, .bool t9)]) (Fr.sub_cons (by kernel_rfl) (Fr.sub_cons (by kernel_rfl) (Fr.sub_nil _))) ?_
      refine n11 ?_
      cases t9 with
      | true =>
        replace hF := ifB_t hF
        refine W.cond_true (by kernel_rfl) (by kernel_rfl) ?_
        refine W.seqK (by kernel_rfl) (fun K13 n13 e13 r13 p13 => ?_)
        refine W.region (by kernel_rfl) ?_
        refine WL.val (d := (some 2)) (v := .int .u8 110) (h' := h_9) (by kernel_rfl) (by kernel_rfl) (by kernel_rfl) ?_
        refine WL.nil (by kernel_rfl) ?_
        refine Go.weaken (l' := [(2, .int .u8 110)]) (Fr.sub_cons (by kernel_rfl) (Fr.sub_nil _)) ?_
        refine n13 ?_
        refine W.ret (by kernel_rfl) ?_
        refine r4 ?_
        refine r2 ?_
        obtain ⟨hF, hF2⟩ := ret_inj hF; subst hF; subst hF2
        exact leave_of (rs := [.tmp 2]) (vs := [.int .u8 110]) (by kernel_rfl) (res_tmp (by kernel_rfl) res_nil) (by kernel_rfl)
      | false =>
        replace hF := ifB_f hF
        refine W.cond_false (by kernel_rfl) (by kernel_rfl) ?_
        refine W.seqK (by kernel_rfl) (fun K14 n14 e14 r14 p14 => ?_)
        refine W.region (by kernel_rfl) ?_
        replace hF := lett_some hF; obtain ⟨t11, e15, hF⟩ := hF
        refine WL.val (d := (some 11)) (v := .bool t11) (h' := h_9) (by kernel_rfl) (by kernel_rfl) (val_of AV.bool e15 (by kernel_rfl)) ?_
        refine WL.val (d := (some 10)) (v := .bool t11) (h' := h_9) (by kernel_rfl) (by kernel_rfl) (by kernel_rfl) ?_
        refine WL.nil (by kernel_rfl) ?_
        refine Go.weaken (l' := [(3, .int .u8 t0), (10, .bool t11)]) (Fr.sub_cons (by kernel_rfl) (Fr.sub_cons (by kernel_rfl) (Fr.sub_nil _))) ?_
        refine n14 ?_
        cases t11 with
        | true =>
          replace hF := ifB_t hF
          refine W.cond_true (by kernel_rfl) (by kernel_rfl) ?_
          refine W.seqK (by kernel_rfl) (fun K16 n16 e16 r16 p16 => ?_)
          refine W.region (by kernel_rfl) ?_
          refine WL.val (d := (some 2)) (v := .int .u8 114) (h' := h_9) (by kernel_rfl) (by kernel_rfl) (by kernel_rfl) ?_
          refine WL.nil (by kernel_rfl) ?_
          refine Go.weaken (l' := [(2, .int .u8 114)]) (Fr.sub_cons (by kernel_rfl) (Fr.sub_nil _)) ?_
          refine n16 ?_
          refine W.ret (by kernel_rfl) ?_
          refine r4 ?_
          refine r2 ?_
          obtain ⟨hF, hF2⟩ := ret_inj hF; subst hF; subst hF2
          exact leave_of (rs := [.tmp 2]) (vs := [.int .u8 114]) (by kernel_rfl) (res_tmp (by kernel_rfl) res_nil) (by kernel_rfl)
        | false =>
          replace hF := ifB_f hF
          refine W.cond_false (by kernel_rfl) (by kernel_rfl) ?_
          refine W.seqK (by kernel_rfl) (fun K17 n17 e17 r17 p17 => ?_)
          refine W.region (by kernel_rfl) ?_
          replace hF := lett_some hF; obtain ⟨t13, e18, hF⟩ := hF
          refine WL.val (d := (some 13)) (v := .bool t13) (h' := h_9) (by kernel_rfl) (by kernel_rfl) (val_of AV.bool e18 (by kernel_rfl)) ?_
          refine WL.val (d := (some 12)) (v := .bool t13) (h' := h_9) (by kernel_rfl) (by kernel_rfl) (by kernel_rfl) ?_
          refine WL.nil (by kernel_rfl) ?_
          refine Go.weaken (l' := [(12, .bool t13)]) (Fr.sub_cons (by kernel_rfl) (Fr.sub_nil _)) ?_
          refine n17 ?_
          cases t13 with
          | true =>
            replace hF := ifB_t hF
            refine W.cond_true (by kernel_rfl) (by kernel_rfl) ?_
            refine W.seqK (by kernel_rfl) (fun K19 n19 e19 r19 p19 => ?_)
            refine W.region (by kernel_rfl) ?_
            refine WL.val (d := (some 2)) (v := .int .u8 116) (h' := h_9) (by kernel_rfl) (by kernel_rfl) (by kernel_rfl) ?_
            refine WL.nil (by kernel_rfl) ?_
            refine Go.weaken (l' := [(2, .int .u8 116)]) (Fr.sub_cons (by kernel_rfl) (Fr.sub_nil _)) ?_
            refine n19 ?_
            refine W.ret (by kernel_rfl) ?_
            refine r4 ?_
            refine r2 ?_
            obtain ⟨hF, hF2⟩ := ret_inj hF; subst hF; subst hF2
            exact leave_of (rs := [.tmp 2]) (vs := [.int .u8 116]) (by kernel_rfl) (res_tmp (by kernel_rfl) res_nil) (by kernel_rfl)
          | false =>
            replace hF := ifB_f hF
            refine W.cond_false (by kernel_rfl) (by kernel_rfl) ?_
            refine W.skip (by kernel_rfl) ?_
            refine n4 ?_
            refine n2 ?_
            refine W.seqK (by kernel_rfl) (fun K20 n20 e20 r20 p20 => ?_)
            refine W.region (by kernel_rfl) ?_
            refine WL.val (d := (some 2)) (v := .int .u8 0) (h' := h_9) (by kernel_rfl) (by kernel_rfl) (by kernel_rfl) ?_
            refine WL.nil (by kernel_rfl) ?_
            refine Go.weaken (l' := [(2, .int .u8 0)]) (Fr.sub_cons (by kernel_rfl) (Fr.sub_nil _)) ?_
            refine n20 ?_
            refine W.ret (by kernel_rfl) ?_
            obtain ⟨hF, hF2⟩ := ret_inj hF; subst hF; subst hF2
            exact leave_of (rs := [.tmp 2]) (vs := [.int .u8 0]) (by kernel_rfl) (res_tmp (by kernel_rfl) res_nil) (by kernel_rfl)
  cases t5 with
  | true =>
    replace hF := ifB_t hF
    refine W.cond_true (by kernel_rfl) (by kernel_rfl) ?_
    refine W.skip (by kernel_rfl) ?_
    exact Go.weaken (Fr.sub_cons (by kernel_rfl) (Fr.sub_cons (by kernel_rfl) (Fr.sub_cons (by kernel_rfl) (Fr.sub_nil _)))) (J8 _ _ hF)
  | false =>
    replace hF := ifB_f hF
    refine W.cond_false (by kernel_rfl) (by kernel_rfl) ?_
    refine W.region (by kernel_rfl) ?_
    replace hF := lett_some hF; obtain ⟨t6, e21, hF⟩ := hF
    refine WL.val (d := (some 6)) (v := .bool t6) (h' := h) (by kernel_rfl) (by kernel_rfl) (val_of AV.bool e21 (by kernel_rfl)) ?_
    refine WL.val (d := (some 4)) (v := .bool t6) (h' := h) (by kernel_rfl) (by kernel_rfl) (by kernel_rfl) ?_
    refine WL.nil (by kernel_rfl) ?_
    refine Go.weaken (l' := [(0, .int .u8 t0), (3, .int .u8 t0), (4, .bool t6)]) (Fr.sub_cons (by kernel_rfl) (Fr.sub_cons (by kernel_rfl) (Fr.sub_cons (by kernel_rfl) (Fr.sub_nil _)))) ?_
    exact Go.weaken (Fr.sub_cons (by kernel_rfl) (Fr.sub_cons (by kernel_rfl) (Fr.sub_cons (by kernel_rfl) (Fr.sub_nil _)))) (J8 _ _ hF)
noncomputable def pattern_short_fn (call : CallF) (n : Nat) : FnT := fun args h => match args with
  | [x0] => obind (avInt .u8 x0) fun t0 => pattern_short call n t0 h
  | _ => none
set_option maxRecDepth 100000 in
theorem pattern_short_fn_eq (call : CallF) (n : Nat) (t0 : Int) (h : AHeap) : pattern_short_fn call n [.int .u8 t0] h = pattern_short call n t0 h :=
  (Eq.trans (obind_eq (fun t0 => pattern_short call n t0 h) (avInt_int .u8 t0)) rfl)
theorem pattern_short_holds {call : CallF} (hc : SaysAll Try.prog call) (n : Nat) : Holds Try.prog 50 (pattern_short_fn call n) := by
  intro args h r h2 e
  unfold pattern_short_fn at e
  split at e
  · replace e := obind_some e; obtain ⟨t0, c0, e⟩ := e; have c0 := avInt_some c0; subst c0
    exact pattern_short_ok hc e
  · cases e

end Go.Proofs.Ytijhmmimffgjiaa
