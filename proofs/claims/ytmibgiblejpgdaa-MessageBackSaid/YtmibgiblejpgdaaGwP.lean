/- Plain functions in place of the program's, and that their calls come to what they say. -/
import Derived.Test.YtmibgiblejpgdaaFrame
import Derived.Test.YtmibgiblejpgdaaAbs50
namespace Go.Proofs.Ytmibgiblejpgdaa
open Go.RowKit Abs

noncomputable def wire_number_L0b (v8 : AV) (k9 : AHeap → R) (self : Int → Int → AHeap → R) (t0_16 : Int) (t6 : Int) (h_17 : AHeap) : R :=
  lett (decide (t6 ≥ 0)) fun (t12 : Bool) =>
  ifB t12
  (
    lett (IntKind.u8.wrap t0_16) fun (t18 : Int) =>
    obind (idxP 1 v8 t6) fun t19 =>
    obind (stRow h_17 1 [.int .u8 t18] t19) fun h_26 =>
    obind (shrI .u64 t0_16 8) fun t21 =>
    lett (IntKind.i64.wrap (t6 - 1)) fun (t14 : Int) =>
    self t21 t14 h_26)
  (
    k9 h_17)
noncomputable def wire_number_L0 (v8 : AV) (k9 : AHeap → R) : Nat → Int → Int → AHeap → R := iterR (fun _ _ _ => none) (wire_number_L0b v8 k9)
theorem wire_number_L0_s (v8 : AV) (k9 : AHeap → R) (m : Nat) : wire_number_L0 v8 k9 (m + 1) = wire_number_L0b v8 k9 (wire_number_L0 v8 k9 m) := rfl
noncomputable def wire_number (_ : CallF) (n : Nat) (t0 : Int) (t1 : Int) (h : AHeap) : R :=
  outK (opMakeSlice Try.prog h 37 (some (.int .i64 t1)) (some (.int .i64 t1))) fun v8 h_3 =>
  lett (IntKind.i64.wrap (t1 - 1)) fun (t10 : Int) =>
  lett (fun  (h_10 : AHeap) =>
    outK (opConv Try.prog h_10 37 9 (some v8)) fun v23 h_12 =>
    obind (avStr v23) fun t23 =>
    some (.ret (strA t23), h_12)) fun k9 =>
  wire_number_L0 v8 k9 n t0 t10 h_3
set_option maxHeartbeats 4000000 in
set_option maxRecDepth 20000 in
theorem wire_number_ok {call : CallF} (_ : SaysAll Try.prog call) {n : Nat} {t0 : Int} {t1 : Int} {h : AHeap} {rR : ARes} {hR : AHeap} (hF : wire_number call n t0 t1 h = some (rR, hR)) : Says Try.prog 44 [.int .u64 t0, .int .i64 t1] h rR hR := by
  unfold wire_number at hF
  refine says_of (fn := Try.f44) Try.func44 (c := codeOf Try.f44) (by kernel_rfl) (by kernel_rfl) (fun w0 m0 => ?_)
  refine W.weaken (l' := [(0, .int .u64 t0), (1, .int .i64 t1)]) (Fr.c (Fr.c Fr.n)) ?_
  refine W.s (fun K1 n1 e1 q1 p1 => ?_)
  refine W.r ?_
  refine WL.a (some 4) (strA ([] : Bytes)) h ?_
  refine WL.n ?_
  refine Go.weaken (l' := [(0, .int .u64 t0), (1, .int .i64 t1)]) (Fr.c (Fr.c Fr.n)) ?_
  refine n1 ?_
  refine W.s (fun K2 n2 e2 q2 p2 => ?_)
  refine W.r ?_
  refine WL.a (some 7) (.int .i64 t1) h ?_
  replace hF := outK_some hF; obtain ⟨v8, h_3, e4, hF⟩ := hF
  refine WL.b (some 8) v8 h_3 e4 ?_
  refine WL.a (some 5) v8 h_3 ?_
  refine WL.n ?_
  refine Go.weaken (l' := [(0, .int .u64 t0), (1, .int .i64 t1), (5, v8)]) (Fr.c (Fr.c (Fr.c Fr.n))) ?_
  refine n2 ?_
  refine W.s (fun K5 n5 e5 q5 p5 => ?_)
  refine W.s (fun K6 n6 e6 q6 p6 => ?_)
  refine W.r ?_
  refine WL.a (some 9) (.int .i64 t1) h_3 ?_
  replace hF := lett_some hF; obtain ⟨t10, e7, hF⟩ := hF
  refine WL.val (d := (some 10)) (v := .int .i64 t10) (h' := h_3) (by kernel_rfl) (by kernel_rfl) (val_of (AV.int .i64) e7 (by kernel_rfl)) ?_
  refine WL.a (some 6) (.int .i64 t10) h_3 ?_
  refine WL.n ?_
  refine Go.weaken (l' := [(0, .int .u64 t0), (5, v8), (6, .int .i64 t10)]) (Fr.c (Fr.c (Fr.c Fr.n))) ?_
  refine n6 ?_
  replace hF := lett_some hF; obtain ⟨k9, e9, hF⟩ := hF
  have J9 : ∀  (h_10 : AHeap), k9 h_10 = some (rR, hR) → Go w0 m0 (Func.ntmps Try.f44) (K5 .normal) [(5, v8)] [] h_10 := by
    intro  h_10 hF
    rw [e9] at hF
    refine n5 ?_
    refine W.s (fun K11 n11 e11 q11 p11 => ?_)
    refine W.r ?_
    refine WL.a (some 22) v8 h_10 ?_
    replace hF := outK_some hF; obtain ⟨v23, h_12, e13, hF⟩ := hF
    replace hF := obind_some hF; obtain ⟨t23, c14, hF⟩ := hF
    have c14 := avStr_some c14
    subst c14
    refine WL.b (some 23) (strA t23) h_12 e13 ?_
    refine WL.a (some 4) (strA t23) h_12 ?_
    refine WL.n ?_
    refine Go.weaken (l' := [(4, strA t23)]) (Fr.c Fr.n) ?_
    refine n11 ?_
    refine W.ret (by kernel_rfl) ?_
    obtain ⟨hF, hF2⟩ := ret_inj hF; subst hF; subst hF2
    exact leave_of (rs := [.tmp 4]) (vs := [strA t23]) (by kernel_rfl) (res_tmp (by kernel_rfl) res_nil) (by kernel_rfl)
  refine W.blockK (by kernel_rfl) (fun K8 n8 s8 o8 q8 p8 => ?_)
  refine W.loopK (by kernel_rfl) (fun I15 K15 b15 n15 e15 q15 p15 => ?_)
  have L15 : ∀ (m : Nat) (t0_16 : Int) (t6 : Int) (h_17 : AHeap), wire_number_L0 v8 k9 m t0_16 t6 h_17 = some (rR, hR) → Go w0 m0 (Func.ntmps Try.f44) I15 [(0, .int .u64 t0_16), (5, v8), (6, .int .i64 t6)] [] h_17 := by
    intro m
    induction m with
    | zero => intro t0_16 t6 h_17 hF; cases hF
    | succ m ih15 =>
      intro t0_16 t6 h_17 hF
      rw [wire_number_L0_s] at hF; unfold wire_number_L0b at hF
      refine b15 ?_
      refine W.s (fun K18 n18 e18 q18 p18 => ?_)
      refine W.s (fun K19 n19 e19 q19 p19 => ?_)
      refine W.r ?_
      refine WL.a (some 11) (.int .i64 t6) h_17 ?_
      replace hF := lett_some hF; obtain ⟨t12, e20, hF⟩ := hF
      refine WL.val (d := (some 12)) (v := .bool t12) (h' := h_17) (by kernel_rfl) (by kernel_rfl) (val_of AV.bool e20 (by kernel_rfl)) ?_
      refine WL.n ?_
      refine Go.weaken (l' := [(0, .int .u64 t0_16), (5, v8), (6, .int .i64 t6), (12, .bool t12)]) (Fr.c (Fr.c (Fr.c (Fr.c Fr.n)))) ?_
      refine n19 ?_
      cases t12 with
      | true =>
        replace hF := ifB_t hF
        refine W.t ?_
        refine W.skip (by kernel_rfl) ?_
        refine n18 ?_
        refine W.s (fun K21 n21 e21 q21 p21 => ?_)
        refine W.blockK (by kernel_rfl) (fun K22 n22 s22 o22 q22 p22 => ?_)
        refine W.s (fun K23 n23 e23 q23 p23 => ?_)
        refine W.r ?_
        refine WL.a (some 15) v8 h_17 ?_
        refine WL.a (some 16) (.int .i64 t6) h_17 ?_
        refine WL.a (some 17) (.int .u64 t0_16) h_17 ?_
        replace hF := lett_some hF; obtain ⟨t18, e24, hF⟩ := hF
        refine WL.val (d := (some 18)) (v := .int .u8 t18) (h' := h_17) (by kernel_rfl) (by kernel_rfl) (val_of (AV.int .u8) e24 (by kernel_rfl)) ?_
        replace hF := obind_some hF; obtain ⟨t19, e25, hF⟩ := hF
        refine WL.b (some 19) t19 h_17 (index_row (P := Try.prog) (h := h_17) (t := 37) (e' := 5) (k := .i64) (by kernel_rfl) (by kernel_rfl) (by kernel_rfl) e25) ?_
        replace hF := obind_some hF; obtain ⟨h_26, e27, hF⟩ := hF
        refine WL.e h_26 (store_row (P := Try.prog) (h := h_17) (t := 5) (v := (.int .u8 t18)) (by kernel_rfl) (by kernel_rfl) e27) ?_
        refine WL.n ?_
        refine Go.weaken (l' := [(0, .int .u64 t0_16), (5, v8), (6, .int .i64 t6)]) (Fr.c (Fr.c (Fr.c Fr.n))) ?_
        refine n23 ?_
        refine W.r ?_
        refine WL.a (some 20) (.int .u64 t0_16) h_26 ?_
        replace hF := obind_some hF; obtain ⟨t21, e28, hF⟩ := hF
        refine WL.b (some 21) (.int .u64 t21) h_26 (shr_int (P := Try.prog) (h := h_26) (t := 66) (k' := .u64) (lit := true) e28) ?_
        refine WL.a (some 0) (.int .u64 t21) h_26 ?_
        refine WL.n ?_
        refine Go.weaken (l' := [(0, .int .u64 t21), (5, v8), (6, .int .i64 t6)]) (Fr.c (Fr.c (Fr.c Fr.n))) ?_
        refine n22 ?_
        refine n21 ?_
        refine W.r ?_
        refine WL.a (some 13) (.int .i64 t6) h_26 ?_
        replace hF := lett_some hF; obtain ⟨t14, e29, hF⟩ := hF
        refine WL.val (d := (some 14)) (v := .int .i64 t14) (h' := h_26) (by kernel_rfl) (by kernel_rfl) (val_of (AV.int .i64) e29 (by kernel_rfl)) ?_
        refine WL.a (some 6) (.int .i64 t14) h_26 ?_
        refine WL.n ?_
        refine Go.weaken (l' := [(0, .int .u64 t21), (5, v8), (6, .int .i64 t14)]) (Fr.c (Fr.c (Fr.c Fr.n))) ?_
        refine n15 ?_
        exact Go.weaken (Fr.c (Fr.c (Fr.c Fr.n))) (ih15 _ _ _ hF)
      | false =>
        replace hF := ifB_f hF
        refine W.f ?_
        refine W.exit (by kernel_rfl) ?_
        refine e18 ?_
        refine e15 ?_
        refine s8 (by kernel_rfl) ?_
        exact Go.weaken (Fr.c Fr.n) (J9 _ hF)
  exact Go.weaken (Fr.c (Fr.c (Fr.c Fr.n))) (L15 _ _ _ _ hF)
noncomputable def wire_number_fn (call : CallF) (n : Nat) : FnT := fun args h => match args with
  | [x0, x1] => obind (avInt .u64 x0) fun t0 => obind (avInt .i64 x1) fun t1 => wire_number call n t0 t1 h
  | _ => none
set_option maxRecDepth 100000 in
theorem wire_number_fn_eq (call : CallF) (n : Nat) (t0 : Int) (t1 : Int) (h : AHeap) : wire_number_fn call n [.int .u64 t0, .int .i64 t1] h = wire_number call n t0 t1 h :=
  (Eq.trans (obind_eq (fun t0 => obind (avInt .i64 (.int .i64 t1)) fun t1 => wire_number call n t0 t1 h) (avInt_int .u64 t0)) (Eq.trans (obind_eq (fun t1 => wire_number call n t0 t1 h) (avInt_int .i64 t1)) rfl))
theorem wire_number_holds {call : CallF} (hc : SaysAll Try.prog call) (n : Nat) : Holds Try.prog 44 (wire_number_fn call n) := by
  intro args h r h2 e
  unfold wire_number_fn at e
  split at e
  · replace e := obind_some e; obtain ⟨t0, c0, e⟩ := e; have c0 := avInt_some c0; subst c0
    replace e := obind_some e; obtain ⟨t1, c1, e⟩ := e; have c1 := avInt_some c1; subst c1
    exact wire_number_ok hc e
  · cases e

noncomputable def wire_U8 (call : CallF) (_ : Nat) (t0 : Int) (h : AHeap) : R :=
  lett (IntKind.u64.wrap t0) fun (t4 : Int) =>
  callN (call 44 [.int .u64 t4, .int .i64 1] h) fun r5 h_4 =>
  obind (avStr r5) fun t5 =>
  some (.ret (strA t5), h_4)
set_option maxHeartbeats 4000000 in
set_option maxRecDepth 20000 in
theorem wire_U8_ok {call : CallF} (hc : SaysAll Try.prog call) {n : Nat} {t0 : Int} {h : AHeap} {rR : ARes} {hR : AHeap} (hF : wire_U8 call n t0 h = some (rR, hR)) : Says Try.prog 22 [.int .u8 t0] h rR hR := by
  unfold wire_U8 at hF
  refine says_of (fn := Try.f22) Try.func22 (c := codeOf Try.f22) (by kernel_rfl) (by kernel_rfl) (fun w0 m0 => ?_)
  refine W.weaken (l' := [(0, .int .u8 t0)]) (Fr.c Fr.n) ?_
  refine W.s (fun K1 n1 e1 q1 p1 => ?_)
  refine W.r ?_
  refine WL.a (some 2) (strA ([] : Bytes)) h ?_
  refine WL.n ?_
  refine Go.weaken (l' := [(0, .int .u8 t0)]) (Fr.c Fr.n) ?_
  refine n1 ?_
  refine W.s (fun K2 n2 e2 q2 p2 => ?_)
  refine W.r ?_
  refine WL.a (some 3) (.int .u8 t0) h ?_
  replace hF := lett_some hF; obtain ⟨t4, e3, hF⟩ := hF
  refine WL.val (d := (some 4)) (v := .int .u64 t4) (h' := h) (by kernel_rfl) (by kernel_rfl) (val_of (AV.int .u64) e3 (by kernel_rfl)) ?_
  replace hF := callN_some hF; obtain ⟨r5, h_4, e5, hF⟩ := hF
  replace hF := obind_some hF; obtain ⟨t5, c6, hF⟩ := hF
  have c6 := avStr_some c6
  subst c6
  refine WL.c (hc.ok w0) (some 5) e5 ?_
  refine WL.a (some 2) (strA t5) h_4 ?_
  refine WL.n ?_
  refine Go.weaken (l' := [(2, strA t5)]) (Fr.c Fr.n) ?_
  refine n2 ?_
  refine W.ret (by kernel_rfl) ?_
  obtain ⟨hF, hF2⟩ := ret_inj hF; subst hF; subst hF2
  exact leave_of (rs := [.tmp 2]) (vs := [strA t5]) (by kernel_rfl) (res_tmp (by kernel_rfl) res_nil) (by kernel_rfl)
noncomputable def wire_U8_fn (call : CallF) (n : Nat) : FnT := fun args h => match args with
  | [x0] => obind (avInt .u8 x0) fun t0 => wire_U8 call n t0 h
  | _ => none
set_option maxRecDepth 100000 in
theorem wire_U8_fn_eq (call : CallF) (n : Nat) (t0 : Int) (h : AHeap) : wire_U8_fn call n [.int .u8 t0] h = wire_U8 call n t0 h :=
  (Eq.trans (obind_eq (fun t0 => wire_U8 call n t0 h) (avInt_int .u8 t0)) rfl)
theorem wire_U8_holds {call : CallF} (hc : SaysAll Try.prog call) (n : Nat) : Holds Try.prog 22 (wire_U8_fn call n) := by
  intro args h r h2 e
  unfold wire_U8_fn at e
  split at e
  · replace e := obind_some e; obtain ⟨t0, c0, e⟩ := e; have c0 := avInt_some c0; subst c0
    exact wire_U8_ok hc e
  · cases e

noncomputable def wire_U32 (call : CallF) (_ : Nat) (t0 : Int) (h : AHeap) : R :=
  lett (IntKind.u64.wrap t0) fun (t4 : Int) =>
  callN (call 44 [.int .u64 t4, .int .i64 4] h) fun r5 h_4 =>
  obind (avStr r5) fun t5 =>
  some (.ret (strA t5), h_4)
set_option maxHeartbeats 4000000 in
set_option maxRecDepth 20000 in
theorem wire_U32_ok {call : CallF} (hc : SaysAll Try.prog call) {n : Nat} {t0 : Int} {h : AHeap} {rR : ARes} {hR : AHeap} (hF : wire_U32 call n t0 h = some (rR, hR)) : Says Try.prog 26 [.int .u32 t0] h rR hR := by
  unfold wire_U32 at hF
  refine says_of (fn := Try.f26) Try.func26 (c := codeOf Try.f26) (by kernel_rfl) (by kernel_rfl) (fun w0 m0 => ?_)
  refine W.weaken (l' := [(0, .int .u32 t0)]) (Fr.c Fr.n) ?_
  refine W.s (fun K1 n1 e1 q1 p1 => ?_)
  refine W.r ?_
  refine WL.a (some 2) (strA ([] : Bytes)) h ?_
  refine WL.n ?_
  refine Go.weaken (l' := [(0, .int .u32 t0)]) (Fr.c Fr.n) ?_
  refine n1 ?_
  refine W.s (fun K2 n2 e2 q2 p2 => ?_)
  refine W.r ?_
  refine WL.a (some 3) (.int .u32 t0) h ?_
  replace hF := lett_some hF; obtain ⟨t4, e3, hF⟩ := hF
  refine WL.val (d := (some 4)) (v := .int .u64 t4) (h' := h) (by kernel_rfl) (by kernel_rfl) (val_of (AV.int .u64) e3 (by kernel_rfl)) ?_
  replace hF := callN_some hF; obtain ⟨r5, h_4, e5, hF⟩ := hF
  replace hF := obind_some hF; obtain ⟨t5, c6, hF⟩ := hF
  have c6 := avStr_some c6
  subst c6
  refine WL.c (hc.ok w0) (some 5) e5 ?_
  refine WL.a (some 2) (strA t5) h_4 ?_
  refine WL.n ?_
  refine Go.weaken (l' := [(2, strA t5)]) (Fr.c Fr.n) ?_
  refine n2 ?_
  refine W.ret (by kernel_rfl) ?_
  obtain ⟨hF, hF2⟩ := ret_inj hF; subst hF; subst hF2
  exact leave_of (rs := [.tmp 2]) (vs := [strA t5]) (by kernel_rfl) (res_tmp (by kernel_rfl) res_nil) (by kernel_rfl)
noncomputable def wire_U32_fn (call : CallF) (n : Nat) : FnT := fun args h => match args with
  | [x0] => obind (avInt .u32 x0) fun t0 => wire_U32 call n t0 h
  | _ => none
set_option maxRecDepth 100000 in
theorem wire_U32_fn_eq (call : CallF) (n : Nat) (t0 : Int) (h : AHeap) : wire_U32_fn call n [.int .u32 t0] h = wire_U32 call n t0 h :=
  (Eq.trans (obind_eq (fun t0 => wire_U32 call n t0 h) (avInt_int .u32 t0)) rfl)
theorem wire_U32_holds {call : CallF} (hc : SaysAll Try.prog call) (n : Nat) : Holds Try.prog 26 (wire_U32_fn call n) := by
  intro args h r h2 e
  unfold wire_U32_fn at e
  split at e
  · replace e := obind_some e; obtain ⟨t0, c0, e⟩ := e; have c0 := avInt_some c0; subst c0
    exact wire_U32_ok hc e
  · cases e

noncomputable def wire_U64 (call : CallF) (_ : Nat) (t0 : Int) (h : AHeap) : R :=
  callN (call 44 [.int .u64 t0, .int .i64 8] h) fun r4 h_3 =>
  obind (avStr r4) fun t4 =>
  some (.ret (strA t4), h_3)
set_option maxHeartbeats 4000000 in
set_option maxRecDepth 20000 in
theorem wire_U64_ok {call : CallF} (hc : SaysAll Try.prog call) {n : Nat} {t0 : Int} {h : AHeap} {rR : ARes} {hR : AHeap} (hF : wire_U64 call n t0 h = some (rR, hR)) : Says Try.prog 24 [.int .u64 t0] h rR hR := by
  unfold wire_U64 at hF
  refine says_of (fn := Try.f24) Try.func24 (c := codeOf Try.f24) (by kernel_rfl) (by kernel_rfl) (fun w0 m0 => ?_)
  refine W.weaken (l' := [(0, .int .u64 t0)]) (Fr.c Fr.n) ?_
  refine W.s (fun K1 n1 e1 q1 p1 => ?_)
  refine W.r ?_
  refine WL.a (some 2) (strA ([] : Bytes)) h ?_
  refine WL.n ?_
  refine Go.weaken (l' := [(0, .int .u64 t0)]) (Fr.c Fr.n) ?_
  refine n1 ?_
  refine W.s (fun K2 n2 e2 q2 p2 => ?_)
  refine W.r ?_
  refine WL.a (some 3) (.int .u64 t0) h ?_
  replace hF := callN_some hF; obtain ⟨r4, h_3, e4, hF⟩ := hF
  replace hF := obind_some hF; obtain ⟨t4, c5, hF⟩ := hF
  have c5 := avStr_some c5
  subst c5
  refine WL.c (hc.ok w0) (some 4) e4 ?_
  refine WL.a (some 2) (strA t4) h_3 ?_
  refine WL.n ?_
  refine Go.weaken (l' := [(2, strA t4)]) (Fr.c Fr.n) ?_
  refine n2 ?_
  refine W.ret (by kernel_rfl) ?_
  obtain ⟨hF, hF2⟩ := ret_inj hF; subst hF; subst hF2
  exact leave_of (rs := [.tmp 2]) (vs := [strA t4]) (by kernel_rfl) (res_tmp (by kernel_rfl) res_nil) (by kernel_rfl)
noncomputable def wire_U64_fn (call : CallF) (n : Nat) : FnT := fun args h => match args with
  | [x0] => obind (avInt .u64 x0) fun t0 => wire_U64 call n t0 h
  | _ => none
set_option maxRecDepth 100000 in
theorem wire_U64_fn_eq (call : CallF) (n : Nat) (t0 : Int) (h : AHeap) : wire_U64_fn call n [.int .u64 t0] h = wire_U64 call n t0 h :=
  (Eq.trans (obind_eq (fun t0 => wire_U64 call n t0 h) (avInt_int .u64 t0)) rfl)
theorem wire_U64_holds {call : CallF} (hc : SaysAll Try.prog call) (n : Nat) : Holds Try.prog 24 (wire_U64_fn call n) := by
  intro args h r h2 e
  unfold wire_U64_fn at e
  split at e
  · replace e := obind_some e; obtain ⟨t0, c0, e⟩ := e; have c0 := avInt_some c0; subst c0
    exact wire_U64_ok hc e
  · cases e

noncomputable def wire_Bool (call : CallF) (_ : Nat) (t0 : Bool) (h : AHeap) : R :=
  ifB t0
  (
    callN (call 22 [.int .u8 1] h) fun r4 h_5 =>
    obind (avStr r4) fun t4 =>
    some (.ret (strA t4), h_5))
  (
    callN (call 22 [.int .u8 0] h) fun r5 h_9 =>
    obind (avStr r5) fun t5 =>
    some (.ret (strA t5), h_9))
set_option maxHeartbeats 4000000 in
set_option maxRecDepth 20000 in
theorem wire_Bool_ok {call : CallF} (hc : SaysAll Try.prog call) {n : Nat} {t0 : Bool} {h : AHeap} {rR : ARes} {hR : AHeap} (hF : wire_Bool call n t0 h = some (rR, hR)) : Says Try.prog 25 [.bool t0] h rR hR := by
  unfold wire_Bool at hF
  refine says_of (fn := Try.f25) Try.func25 (c := codeOf Try.f25) (by kernel_rfl) (by kernel_rfl) (fun w0 m0 => ?_)
  refine W.weaken (l' := [(0, .bool t0)]) (Fr.c Fr.n) ?_
  refine W.s (fun K1 n1 e1 q1 p1 => ?_)
  refine W.r ?_
  refine WL.a (some 2) (strA ([] : Bytes)) h ?_
  refine WL.n ?_
  refine Go.weaken (l' := [(0, .bool t0)]) (Fr.c Fr.n) ?_
  refine n1 ?_
  refine W.s (fun K2 n2 e2 q2 p2 => ?_)
  refine W.s (fun K3 n3 e3 q3 p3 => ?_)
  refine W.r ?_
  refine WL.a (some 3) (.bool t0) h ?_
  refine WL.n ?_
  refine Go.weaken (l' := [(3, .bool t0)]) (Fr.c Fr.n) ?_
  refine n3 ?_
  cases t0 with
  | true =>
    replace hF := ifB_t hF
    refine W.t ?_
    refine W.s (fun K4 n4 e4 q4 p4 => ?_)
    refine W.r ?_
    replace hF := callN_some hF; obtain ⟨r4, h_5, e6, hF⟩ := hF
    replace hF := obind_some hF; obtain ⟨t4, c7, hF⟩ := hF
    have c7 := avStr_some c7
    subst c7
    refine WL.c (hc.ok w0) (some 4) e6 ?_
    refine WL.a (some 2) (strA t4) h_5 ?_
    refine WL.n ?_
    refine Go.weaken (l' := [(2, strA t4)]) (Fr.c Fr.n) ?_
    refine n4 ?_
    refine W.ret (by kernel_rfl) ?_
    refine q2 ?_
    obtain ⟨hF, hF2⟩ := ret_inj hF; subst hF; subst hF2
    exact leave_of (rs := [.tmp 2]) (vs := [strA t4]) (by kernel_rfl) (res_tmp (by kernel_rfl) res_nil) (by kernel_rfl)
  | false =>
    replace hF := ifB_f hF
    refine W.f ?_
    refine W.skip (by kernel_rfl) ?_
    refine n2 ?_
    refine W.s (fun K8 n8 e8 q8 p8 => ?_)
    refine W.r ?_
    replace hF := callN_some hF; obtain ⟨r5, h_9, e10, hF⟩ := hF
    replace hF := obind_some hF; obtain ⟨t5, c11, hF⟩ := hF
    have c11 := avStr_some c11
    subst c11
    refine WL.c (hc.ok w0) (some 5) e10 ?_
    refine WL.a (some 2) (strA t5) h_9 ?_
    refine WL.n ?_
    refine Go.weaken (l' := [(2, strA t5)]) (Fr.c Fr.n) ?_
    refine n8 ?_
    refine W.ret (by kernel_rfl) ?_
    obtain ⟨hF, hF2⟩ := ret_inj hF; subst hF; subst hF2
    exact leave_of (rs := [.tmp 2]) (vs := [strA t5]) (by kernel_rfl) (res_tmp (by kernel_rfl) res_nil) (by kernel_rfl)
noncomputable def wire_Bool_fn (call : CallF) (n : Nat) : FnT := fun args h => match args with
  | [x0] => obind (avBool x0) fun t0 => wire_Bool call n t0 h
  | _ => none
set_option maxRecDepth 100000 in
theorem wire_Bool_fn_eq (call : CallF) (n : Nat) (t0 : Bool) (h : AHeap) : wire_Bool_fn call n [.bool t0] h = wire_Bool call n t0 h :=
  (Eq.trans (obind_eq (fun t0 => wire_Bool call n t0 h) (avBool_bool t0)) rfl)
theorem wire_Bool_holds {call : CallF} (hc : SaysAll Try.prog call) (n : Nat) : Holds Try.prog 25 (wire_Bool_fn call n) := by
  intro args h r h2 e
  unfold wire_Bool_fn at e
  split at e
  · replace e := obind_some e; obtain ⟨t0, c0, e⟩ := e; have c0 := avBool_some c0; subst c0
    exact wire_Bool_ok hc e
  · cases e

noncomputable def wire_length (call : CallF) (_ : Nat) (t0 : Bytes) (h : AHeap) : R :=
  lett (IntKind.u32.wrap (lenS t0)) fun (t5 : Int) =>
  callN (call 26 [.int .u32 t5] h) fun r6 h_4 =>
  obind (avStr r6) fun t6 =>
  some (.ret (strA t6), h_4)
set_option maxHeartbeats 4000000 in
set_option maxRecDepth 20000 in
theorem wire_length_ok {call : CallF} (hc : SaysAll Try.prog call) {n : Nat} {t0 : Bytes} {h : AHeap} {rR : ARes} {hR : AHeap} (hF : wire_length call n t0 h = some (rR, hR)) : Says Try.prog 54 [strA t0] h rR hR := by
  unfold wire_length at hF
  refine says_of (fn := Try.f54) Try.func54 (c := codeOf Try.f54) (by kernel_rfl) (by kernel_rfl) (fun w0 m0 => ?_)
  refine W.weaken (l' := [(0, strA t0)]) (Fr.c Fr.n) ?_
  refine W.s (fun K1 n1 e1 q1 p1 => ?_)
  refine W.r ?_
  refine WL.a (some 2) (strA ([] : Bytes)) h ?_
  refine WL.n ?_
  refine Go.weaken (l' := [(0, strA t0)]) (Fr.c Fr.n) ?_
  refine n1 ?_
  refine W.s (fun K2 n2 e2 q2 p2 => ?_)
  refine W.r ?_
  refine WL.a (some 3) (strA t0) h ?_
  refine WL.a (some 4) (.int .i64 (lenS t0)) h ?_
  replace hF := lett_some hF; obtain ⟨t5, e3, hF⟩ := hF
  refine WL.val (d := (some 5)) (v := .int .u32 t5) (h' := h) (by kernel_rfl) (by kernel_rfl) (val_of (AV.int .u32) e3 (by kernel_rfl)) ?_
  replace hF := callN_some hF; obtain ⟨r6, h_4, e5, hF⟩ := hF
  replace hF := obind_some hF; obtain ⟨t6, c6, hF⟩ := hF
  have c6 := avStr_some c6
  subst c6
  refine WL.c (hc.ok w0) (some 6) e5 ?_
  refine WL.a (some 2) (strA t6) h_4 ?_
  refine WL.n ?_
  refine Go.weaken (l' := [(2, strA t6)]) (Fr.c Fr.n) ?_
  refine n2 ?_
  refine W.ret (by kernel_rfl) ?_
  obtain ⟨hF, hF2⟩ := ret_inj hF; subst hF; subst hF2
  exact leave_of (rs := [.tmp 2]) (vs := [strA t6]) (by kernel_rfl) (res_tmp (by kernel_rfl) res_nil) (by kernel_rfl)
noncomputable def wire_length_fn (call : CallF) (n : Nat) : FnT := fun args h => match args with
  | [x0] => obind (avStr x0) fun t0 => wire_length call n t0 h
  | _ => none
set_option maxRecDepth 100000 in
theorem wire_length_fn_eq (call : CallF) (n : Nat) (t0 : Bytes) (h : AHeap) : wire_length_fn call n [strA t0] h = wire_length call n t0 h :=
  (Eq.trans (obind_eq (fun t0 => wire_length call n t0 h) (avStr_str t0)) rfl)
theorem wire_length_holds {call : CallF} (hc : SaysAll Try.prog call) (n : Nat) : Holds Try.prog 54 (wire_length_fn call n) := by
  intro args h r h2 e
  unfold wire_length_fn at e
  split at e
  · replace e := obind_some e; obtain ⟨t0, c0, e⟩ := e; have c0 := avStr_some c0; subst c0
    exact wire_length_ok hc e
  · cases e

noncomputable def wire_Text (call : CallF) (_ : Nat) (t0 : Bytes) (h : AHeap) : R :=
  lett (decide ((lenS t0) > 1048576)) fun (t6 : Bool) =>
  ifB t6
  (
    some (.ret (.tup [strA ([] : Bytes), .int .i64 3]), h))
  (
    callN (call 54 [strA t0] h) fun r8 h_7 =>
    obind (avStr r8) fun t8 =>
    obind (addS t8 t0) fun t10 =>
    some (.ret (.tup [strA t10, .int .i64 0]), h_7))
set_option maxHeartbeats 4000000 in
set_option maxRecDepth 20000 in
theorem wire_Text_ok {call : CallF} (hc : SaysAll Try.prog call) {n : Nat} {t0 : Bytes} {h : AHeap} {rR : ARes} {hR : AHeap} (hF : wire_Text call n t0 h = some (rR, hR)) : Says Try.prog 45 [strA t0] h rR hR := by
  unfold wire_Text at hF
  refine says_of (fn := Try.f45) Try.func45 (c := codeOf Try.f45) (by kernel_rfl) (by kernel_rfl) (fun w0 m0 => ?_)
  refine W.weaken (l' := [(0, strA t0)]) (Fr.c Fr.n) ?_
  refine W.s (fun K1 n1 e1 q1 p1 => ?_)
  refine W.r ?_
  refine WL.a (some 2) (strA ([] : Bytes)) h ?_
  refine WL.a (some 3) (.int .i64 0) h ?_
  refine WL.n ?_
  refine Go.weaken (l' := [(0, strA t0)]) (Fr.c Fr.n) ?_
  refine n1 ?_
  refine W.s (fun K2 n2 e2 q2 p2 => ?_)
  refine W.s (fun K3 n3 e3 q3 p3 => ?_)
  refine W.r ?_
  refine WL.a (some 4) (strA t0) h ?_
  refine WL.a (some 5) (.int .i64 (lenS t0)) h ?_
  replace hF := lett_some hF; obtain ⟨t6, e4, hF⟩ := hF
  refine WL.val (d := (some 6)) (v := .bool t6) (h' := h) (by kernel_rfl) (by kernel_rfl) (val_of AV.bool e4 (by kernel_rfl)) ?_
  refine WL.n ?_
  refine Go.weaken (l' := [(0, strA t0), (6, .bool t6)]) (Fr.c (Fr.c Fr.n)) ?_
  refine n3 ?_
  cases t6 with
  | true =>
    replace hF := ifB_t hF
    refine W.t ?_
    refine W.s (fun K5 n5 e5 q5 p5 => ?_)
    refine W.r ?_
    refine WL.a (some 2) (strA ([] : Bytes)) h ?_
    refine WL.a (some 3) (.int .i64 3) h ?_
    refine WL.n ?_
    refine Go.weaken (l' := [(2, strA ([] : Bytes)), (3, .int .i64 3)]) (Fr.c (Fr.c Fr.n)) ?_
    refine n5 ?_
    refine W.ret (by kernel_rfl) ?_
    refine q2 ?_
    obtain ⟨hF, hF2⟩ := ret_inj hF; subst hF; subst hF2
    exact leave_of (rs := [.tmp 2, .tmp 3]) (vs := [strA ([] : Bytes), .int .i64 3]) (by kernel_rfl) (res_tmp (by kernel_rfl) (res_tmp (by kernel_rfl) res_nil)) (by kernel_rfl)
  | false =>
    replace hF := ifB_f hF
    refine W.f ?_
    refine W.skip (by kernel_rfl) ?_
    refine n2 ?_
    refine W.s (fun K6 n6 e6 q6 p6 => ?_)
    refine W.r ?_
    refine WL.a (some 7) (strA t0) h ?_
    replace hF := callN_some hF; obtain ⟨r8, h_7, e8, hF⟩ := hF
    replace hF := obind_some hF; obtain ⟨t8, c9, hF⟩ := hF
    have c9 := avStr_some c9
    subst c9
    refine WL.c (hc.ok w0) (some 8) e8 ?_
    refine WL.a (some 9) (strA t0) h_7 ?_
    replace hF := obind_some hF; obtain ⟨t10, e10, hF⟩ := hF
    refine WL.b (some 10) (strA t10) h_7 (add_str (P := Try.prog) (h := h_7) (t := 9) (lit := false) e10) ?_
    refine WL.a (some 2) (strA t10) h_7 ?_
    refine WL.a (some 3) (.int .i64 0) h_7 ?_
    refine WL.n ?_
    refine Go.weaken (l' := [(2, strA t10), (3, .int .i64 0)]) (Fr.c (Fr.c Fr.n)) ?_
    refine n6 ?_
    refine W.ret (by kernel_rfl) ?_
    obtain ⟨hF, hF2⟩ := ret_inj hF; subst hF; subst hF2
    exact leave_of (rs := [.tmp 2, .tmp 3]) (vs := [strA t10, .int .i64 0]) (by kernel_rfl) (res_tmp (by kernel_rfl) (res_tmp (by kernel_rfl) res_nil)) (by kernel_rfl)
noncomputable def wire_Text_fn (call : CallF) (n : Nat) : FnT := fun args h => match args with
  | [x0] => obind (avStr x0) fun t0 => wire_Text call n t0 h
  | _ => none
set_option maxRecDepth 100000 in
theorem wire_Text_fn_eq (call : CallF) (n : Nat) (t0 : Bytes) (h : AHeap) : wire_Text_fn call n [strA t0] h = wire_Text call n t0 h :=
  (Eq.trans (obind_eq (fun t0 => wire_Text call n t0 h) (avStr_str t0)) rfl)
theorem wire_Text_holds {call : CallF} (hc : SaysAll Try.prog call) (n : Nat) : Holds Try.prog 45 (wire_Text_fn call n) := by
  intro args h r h2 e
  unfold wire_Text_fn at e
  split at e
  · replace e := obind_some e; obtain ⟨t0, c0, e⟩ := e; have c0 := avStr_some c0; subst c0
    exact wire_Text_ok hc e
  · cases e

noncomputable def message_text (call : CallF) (_ : Nat) (t0 : Bytes) (h : AHeap) : R :=
  callN (call 45 [strA t0] h) fun r7 h_3 =>
  obind (extT 0 r7) fun v8 =>
  obind (avStr v8) fun t8 =>
  obind (extT 1 r7) fun v9 =>
  obind (avInt .i64 v9) fun _ =>
  some (.ret (strA t8), h_3)
set_option maxHeartbeats 4000000 in
set_option maxRecDepth 20000 in
theorem message_text_ok {call : CallF} (hc : SaysAll Try.prog call) {n : Nat} {t0 : Bytes} {h : AHeap} {rR : ARes} {hR : AHeap} (hF : message_text call n t0 h = some (rR, hR)) : Says Try.prog 27 [strA t0] h rR hR := by
  unfold message_text at hF
  refine says_of (fn := Try.f27) Try.func27 (c := codeOf Try.f27) (by kernel_rfl) (by kernel_rfl) (fun w0 m0 => ?_)
  refine W.weaken (l' := [(0, strA t0)]) (Fr.c Fr.n) ?_
  refine W.s (fun K1 n1 e1 q1 p1 => ?_)
  refine W.r ?_
  refine WL.a (some 2) (strA ([] : Bytes)) h ?_
  refine WL.n ?_
  refine Go.weaken (l' := [(0, strA t0)]) (Fr.c Fr.n) ?_
  refine n1 ?_
  refine W.s (fun K2 n2 e2 q2 p2 => ?_)
  refine W.r ?_
  refine WL.a (some 6) (strA t0) h ?_
  replace hF := callN_some hF; obtain ⟨r7, h_3, e4, hF⟩ := hF
  refine WL.c (hc.ok w0) (some 7) e4 ?_
  refine WL.a (some 5) r7 h_3 ?_
  replace hF := obind_some hF; obtain ⟨v8, e5, hF⟩ := hF
  replace hF := obind_some hF; obtain ⟨t8, c6, hF⟩ := hF
  have c6 := avStr_some c6
  subst c6
  refine WL.b (some 8) (strA t8) h_3 (extract_tup (h := h_3) e5) ?_
  replace hF := obind_some hF; obtain ⟨v9, e7, hF⟩ := hF
  replace hF := obind_some hF; obtain ⟨t9, c8, hF⟩ := hF
  have c8 := avInt_some c8
  subst c8
  refine WL.b (some 9) (.int .i64 t9) h_3 (extract_tup (h := h_3) e7) ?_
  refine WL.a (some 3) (strA t8) h_3 ?_
  refine WL.a (some 4) (.int .i64 t9) h_3 ?_
  refine WL.n ?_
  refine Go.weaken (l' := [(3, strA t8)]) (Fr.c Fr.n) ?_
  refine n2 ?_
  refine W.s (fun K9 n9 e9 q9 p9 => ?_)
  refine W.r ?_
  refine WL.a (some 10) (strA t8) h_3 ?_
  refine WL.a (some 2) (strA t8) h_3 ?_
  refine WL.n ?_
  refine Go.weaken (l' := [(2, strA t8)]) (Fr.c Fr.n) ?_
  refine n9 ?_
  refine W.ret (by kernel_rfl) ?_
  obtain ⟨hF, hF2⟩ := ret_inj hF; subst hF; subst hF2
  exact leave_of (rs := [.tmp 2]) (vs := [strA t8]) (by kernel_rfl) (res_tmp (by kernel_rfl) res_nil) (by kernel_rfl)
noncomputable def message_text_fn (call : CallF) (n : Nat) : FnT := fun args h => match args with
  | [x0] => obind (avStr x0) fun t0 => message_text call n t0 h
  | _ => none
set_option maxRecDepth 100000 in
theorem message_text_fn_eq (call : CallF) (n : Nat) (t0 : Bytes) (h : AHeap) : message_text_fn call n [strA t0] h = message_text call n t0 h :=
  (Eq.trans (obind_eq (fun t0 => message_text call n t0 h) (avStr_str t0)) rfl)
theorem message_text_holds {call : CallF} (hc : SaysAll Try.prog call) (n : Nat) : Holds Try.prog 27 (message_text_fn call n) := by
  intro args h r h2 e
  unfold message_text_fn at e
  split at e
  · replace e := obind_some e; obtain ⟨t0, c0, e⟩ := e; have c0 := avStr_some c0; subst c0
    exact message_text_ok hc e
  · cases e

end Go.Proofs.Ytmibgiblejpgdaa
