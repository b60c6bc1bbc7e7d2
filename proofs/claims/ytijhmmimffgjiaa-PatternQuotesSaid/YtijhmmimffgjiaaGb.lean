/- Plain functions in place of the program's, and that their calls come to what they say. -/
import Derived.Test.YtijhmmimffgjiaaFrame
import Derived.Test.YtijhmmimffgjiaaAbs29
namespace Go.Proofs.Ytijhmmimffgjiaa
open Go.RowKit Abs

noncomputable def strings_Builder_WriteByte (call : CallF) (_ : Nat) (t0 : AV) (t1 : Int) (h : AHeap) : R :=
  callN (call 49 [t0] h) fun _ h_3 =>
  obind (nilC t0) fun t9 =>
  obind (fldP 1 t9) fun t10 =>
  obind (ldCell h_3 t10) fun v11 =>
  outK (bldSl Try.prog h_3 50 1 [(0, .int .u8 t1)]) fun v13 h_9 =>
  outK (opAppend Try.prog h_9 50 50 v11 v13) fun v14 h_11 =>
  obind (nilC t0) fun t15 =>
  obind (fldP 1 t15) fun t16 =>
  obind (stRow h_11 1 (AV.cells v14) t16) fun h_15 =>
  some (.ret (AV.nifc), h_15)
set_option maxHeartbeats 4000000 in
set_option maxRecDepth 20000 in
theorem strings_Builder_WriteByte_ok {call : CallF} (hc : SaysAll Try.prog call) {n : Nat} {t0 : AV} {t1 : Int} {h : AHeap} {rR : ARes} {hR : AHeap} (hF : strings_Builder_WriteByte call n t0 t1 h = some (rR, hR)) : Says Try.prog 29 [t0, .int .u8 t1] h rR hR := by
  unfold strings_Builder_WriteByte at hF
  refine says_of (fn := Try.f29) Try.func29 (c := codeOf Try.f29) (by kernel_rfl) (by kernel_rfl) (fun w0 m0 => ?_)
  refine W.weaken (l' := [(0, t0), (1, .int .u8 t1)]) (Fr.sub_cons (by kernel_rfl) (Fr.sub_cons (by kernel_rfl) (Fr.sub_nil _))) ?_
  refine W.seqK (by kernel_rfl) (fun K1 n1 e1 r1 p1 => ?_)
  refine W.region (by kernel_rfl) ?_
  refine WL.val (d := (some 4)) (v := AV.nifc) (h' := h) (by kernel_rfl) (by kernel_rfl) (by kernel_rfl) ?_
  refine WL.nil (by kernel_rfl) ?_
  refine Go.weaken (l' := [(0, t0), (1, .int .u8 t1)]) (Fr.sub_cons (by kernel_rfl) (Fr.sub_cons (by kernel_rfl) (Fr.sub_nil _))) ?_
  refine n1 ?_
  refine W.seqK (by kernel_rfl) (fun K2 n2 e2 r2 p2 => ?_)
  refine W.region (by kernel_rfl) ?_
  refine WL.val (d := (some 5)) (v := t0) (h' := h) (by kernel_rfl) (by kernel_rfl) (by kernel_rfl) ?_
  replace hF := callN_some hF; obtain ⟨r6, h_3, e4, hF⟩ := hF
  refine WL.call (hc.ok w0) (d := (some 6)) (by kernel_rfl) (by kernel_rfl) (by kernel_rfl) e4 ?_
  refine WL.nil (by kernel_rfl) ?_
  refine Go.weaken (l' := [(0, t0), (1, .int .u8 t1)]) (Fr.sub_cons (by kernel_rfl) (Fr.sub_cons (by kernel_rfl) (Fr.sub_nil _))) ?_
  refine n2 ?_
  refine W.seqK (by kernel_rfl) (fun K5 n5 e5 r5 p5 => ?_)
  refine W.region (by kernel_rfl) ?_
  refine WL.val (d := (some 7)) (v := t0) (h' := h_3) (by kernel_rfl) (by kernel_rfl) (by kernel_rfl) ?_
  refine WL.val (d := (some 8)) (v := t0) (h' := h_3) (by kernel_rfl) (by kernel_rfl) (by kernel_rfl) ?_
  replace hF := obind_some hF; obtain ⟨t9, e6, hF⟩ := hF
  refine WL.val (d := (some 9)) (v := t9) (h' := h_3) (by kernel_rfl) (by kernel_rfl) (Eq.trans (by kernel_rfl) (nil_chk (h := h_3) e6)) ?_
  replace hF := obind_some hF; obtain ⟨t10, e7, hF⟩ := hF
  refine WL.val (d := (some 10)) (v := t10) (h' := h_3) (by kernel_rfl) (by kernel_rfl) (Eq.trans (by kernel_rfl) (field_ptr (P := Try.prog) (h := h_3) (s := 57) (f := 1) (by kernel_rfl) e7)) ?_
  replace hF := obind_some hF; obtain ⟨v11, e8, hF⟩ := hF
  refine WL.val (d := (some 11)) (v := v11) (h' := h_3) (by kernel_rfl) (by kernel_rfl) (Eq.trans (by kernel_rfl) (load_cell (P := Try.prog) (h := h_3) (t := 50) (by kernel_rfl) e8)) ?_
  refine WL.val (d := (some 12)) (v := .int .u8 t1) (h' := h_3) (by kernel_rfl) (by kernel_rfl) (by kernel_rfl) ?_
  replace hF := outK_some hF; obtain ⟨v13, h_9, e10, hF⟩ := hF
  refine WL.val (d := (some 13)) (v := v13) (h' := h_9) (by kernel_rfl) (by kernel_rfl) (Eq.trans (by kernel_rfl) e10) ?_
  replace hF := outK_some hF; obtain ⟨v14, h_11, e12, hF⟩ := hF
  refine WL.val (d := (some 14)) (v := v14) (h' := h_11) (by kernel_rfl) (by kernel_rfl) (Eq.trans (by kernel_rfl) e12) ?_
  replace hF := obind_some hF; obtain ⟨t15, e13, hF⟩ := hF
  refine WL.val (d := (some 15)) (v := t15) (h' := h_11) (by kernel_rfl) (by kernel_rfl) (Eq.trans (by kernel_rfl) (nil_chk (h := h_11) e13)) ?_
  replace hF := obind_some hF; obtain ⟨t16, e14, hF⟩ := hF
  refine WL.val (d := (some 16)) (v := t16) (h' := h_11) (by kernel_rfl) (by kernel_rfl) (Eq.trans (by kernel_rfl) (field_ptr (P := Try.prog) (h := h_11) (s := 57) (f := 1) (by kernel_rfl) e14)) ?_
  replace hF := obind_some hF; obtain ⟨h_15, e16, hF⟩ := hF
  refine WL.eff (h' := h_15) (by kernel_rfl) (by kernel_rfl) (Eq.trans (by kernel_rfl) (store_row (P := Try.prog) (h := h_11) (t := 50) (v := v14) (by kernel_rfl) (by kernel_rfl) e16)) ?_
  refine WL.nil (by kernel_rfl) ?_
  refine Go.weaken (l' := []) (Fr.sub_nil _) ?_
  refine n5 ?_
  refine W.seqK (by kernel_rfl) (fun K17 n17 e17 r17 p17 => ?_)
  refine W.region (by kernel_rfl) ?_
  refine WL.val (d := (some 4)) (v := AV.nifc) (h' := h_15) (by kernel_rfl) (by kernel_rfl) (by kernel_rfl) ?_
  refine WL.nil (by kernel_rfl) ?_
  refine Go.weaken (l' := [(4, AV.nifc)]) (Fr.sub_cons (by kernel_rfl) (Fr.sub_nil _)) ?_
  refine n17 ?_
  refine W.ret (by kernel_rfl) ?_
  obtain ⟨hF, hF2⟩ := ret_inj hF; subst hF; subst hF2
  exact leave_of (rs := [.tmp 4]) (vs := [AV.nifc]) (by kernel_rfl) (res_tmp (by kernel_rfl) res_nil) (by kernel_rfl)
noncomputable def strings_Builder_WriteByte_fn (call : CallF) (n : Nat) : FnT := fun args h => match args with
  | [x0, x1] => obind (avInt .u8 x1) fun t1 => strings_Builder_WriteByte call n x0 t1 h
  | _ => none
set_option maxRecDepth 100000 in
theorem strings_Builder_WriteByte_fn_eq (call : CallF) (n : Nat) (t0 : AV) (t1 : Int) (h : AHeap) : strings_Builder_WriteByte_fn call n [t0, .int .u8 t1] h = strings_Builder_WriteByte call n t0 t1 h :=
  (Eq.trans (obind_eq (fun t1 => strings_Builder_WriteByte call n t0 t1 h) (avInt_int .u8 t1)) rfl)
theorem strings_Builder_WriteByte_holds {call : CallF} (hc : SaysAll Try.prog call) (n : Nat) : Holds Try.prog 29 (strings_Builder_WriteByte_fn call n) := by
  intro args h r h2 e
  unfold strings_Builder_WriteByte_fn at e
  split at e
  · replace e := obind_some e; obtain ⟨t1, c1, e⟩ := e; have c1 := avInt_some c1; subst c1
    exact strings_Builder_WriteByte_ok hc e
  · cases e

noncomputable def strings_Builder_String (_ : CallF) (_ : Nat) (t0 : AV) (h : AHeap) : R :=
  obind (nilC t0) fun t4 =>
  obind (fldP 1 t4) fun t5 =>
  obind (ldCell h t5) fun v6 =>
  obind (nilC t0) fun t9 =>
  obind (fldP 1 t9) fun t10 =>
  obind (ldCell h t10) fun v11 =>
  obind (lenL v11) fun t12 =>
  outK (opSliceData h v6) fun v7 h_10 =>
  chk (reLoad Try.prog h_10 50 t10 v11 && (true && true)) <|
  outK (opUnsafeStr Try.prog h_10 89 v7 (.int .i64 t12)) fun v13 h_13 =>
  obind (avStr v13) fun t13 =>
  some (.ret (strA t13), h_13)
set_option maxHeartbeats 4000000 in
set_option maxRecDepth 20000 in
theorem strings_Builder_String_ok {call : CallF} (hc : SaysAll Try.prog call) {n : Nat} {t0 : AV} {h : AHeap} {rR : ARes} {hR : AHeap} (hF : strings_Builder_String call n t0 h = some (rR, hR)) : Says Try.prog 31 [t0] h rR hR := by
  unfold strings_Builder_String at hF
  refine says_of (fn := Try.f31) Try.func31 (c := codeOf Try.f31) (by kernel_rfl) (by kernel_rfl) (fun w0 m0 => ?_)
  refine W.weaken (l' := [(0, t0)]) (Fr.sub_cons (by kernel_rfl) (Fr.sub_nil _)) ?_
  refine W.seqK (by kernel_rfl) (fun K1 n1 e1 r1 p1 => ?_)
  refine W.region (by kernel_rfl) ?_
  refine WL.val (d := (some 2)) (v := strA ([] : Bytes)) (h' := h) (by kernel_rfl) (by kernel_rfl) (by kernel_rfl) ?_
  refine WL.nil (by kernel_rfl) ?_
  refine Go.weaken (l' := [(0, t0)]) (Fr.sub_cons (by kernel_rfl) (Fr.sub_nil _)) ?_
  refine n1 ?_
  refine W.seqK (by kernel_rfl) (fun K2 n2 e2 r2 p2 => ?_)
  refine W.draw (by kernel_rfl) (hc.ok w0) (plan := [0, 1, 2, 3, 5, 6, 7, 8, 9, 4, 10, 11]) (by kernel_rfl) (by kernel_rfl) (by kernel_rfl) ?_
  refine WD.val (d := (some 3)) (v := t0) (h' := h) (by kernel_rfl) (by kernel_rfl) (by kernel_rfl) (k := 0) (by kernel_rfl) (fun e => absurd e (by decide)) (by decide) ?_
  replace hF := obind_some hF; obtain ⟨t4, e3, hF⟩ := hF
  refine WD.val (d := (some 4)) (v := t4) (h' := h) (by kernel_rfl) (by kernel_rfl) (Eq.trans (by kernel_rfl) (nil_chk (h := h) e3)) (k := 0) (by kernel_rfl) (fun e => absurd e (by decide)) (by decide) ?_
  replace hF := obind_some hF; obtain ⟨t5, e4, hF⟩ := hF
  refine WD.val (d := (some 5)) (v := t5) (h' := h) (by kernel_rfl) (by kernel_rfl) (Eq.trans (by kernel_rfl) (field_ptr (P := Try.prog) (h := h) (s := 57) (f := 1) (by kernel_rfl) e4)) (k := 0) (by kernel_rfl) (fun e => absurd e (by decide)) (by decide) ?_
  replace hF := obind_some hF; obtain ⟨v6, e5, hF⟩ := hF
  refine WD.val (d := (some 6)) (v := v6) (h' := h) (by kernel_rfl) (by kernel_rfl) (Eq.trans (by kernel_rfl) (load_cell (P := Try.prog) (h := h) (t := 50) (by kernel_rfl) e5)) (k := 1) (by kernel_rfl) (fun e => absurd e (by decide)) (by decide) ?_
  refine WD.val (d := (some 8)) (v := t0) (h' := h) (by kernel_rfl) (by kernel_rfl) (by kernel_rfl) (k := 0) (by kernel_rfl) (fun e => absurd e (by decide)) (by decide) ?_
  replace hF := obind_some hF; obtain ⟨t9, e6, hF⟩ := hF
  refine WD.val (d := (some 9)) (v := t9) (h' := h) (by kernel_rfl) (by kernel_rfl) (Eq.trans (by kernel_rfl) (nil_chk (h := h) e6)) (k := 0) (by kernel_rfl) (fun e => absurd e (by decide)) (by decide) ?_
  replace hF := obind_some hF; obtain ⟨t10, e7, hF⟩ := hF
  refine WD.val (d := (some 10)) (v := t10) (h' := h) (by kernel_rfl) (by kernel_rfl) (Eq.trans (by kernel_rfl) (field_ptr (P := Try.prog) (h := h) (s := 57) (f := 1) (by kernel_rfl) e7)) (k := 0) (by kernel_rfl) (fun e => absurd e (by decide)) (by decide) ?_
  replace hF := obind_some hF; obtain ⟨v11, e8, hF⟩ := hF
  refine WD.val (d := (some 11)) (v := v11) (h' := h) (by kernel_rfl) (by kernel_rfl) (Eq.trans (by kernel_rfl) (load_cell (P := Try.prog) (h := h) (t := 50) (by kernel_rfl) e8)) (k := 1) (by kernel_rfl) (fun e => absurd e (by decide)) (by decide) ?_
  replace hF := obind_some hF; obtain ⟨t12, e9, hF⟩ := hF
  refine WD.val (d := (some 12)) (v := .int .i64 t12) (h' := h) (by kernel_rfl) (by kernel_rfl) (Eq.trans (by kernel_rfl) (len_row (P := Try.prog) (h := h) (t := 50) (e' := 5) (by kernel_rfl) e9)) (k := 0) (by kernel_rfl) (fun e => absurd e (by decide)) (by decide) ?_
  replace hF := outK_some hF; obtain ⟨v7, h_10, e11, hF⟩ := hF
  replace hF := chk_some hF; obtain ⟨k12, hF⟩ := hF
  refine WD.val (d := (some 7)) (v := v7) (h' := h_10) (by kernel_rfl) (by kernel_rfl) (Eq.trans (by kernel_rfl) e11) (k := 2) (by kernel_rfl) (fun _ => (Eq.trans (by kernel_rfl) k12)) (by decide) ?_
  replace hF := outK_some hF; obtain ⟨v13, h_13, e14, hF⟩ := hF
  replace hF := obind_some hF; obtain ⟨t13, c15, hF⟩ := hF
  have c15 := avStr_some c15
  subst c15
  refine WD.val (d := (some 13)) (v := strA t13) (h' := h_13) (by kernel_rfl) (by kernel_rfl) (Eq.trans (by kernel_rfl) e14) (k := 2) (by kernel_rfl) (fun _ => (by kernel_rfl)) (by decide) ?_
  refine WD.val (d := (some 2)) (v := strA t13) (h' := h_13) (by kernel_rfl) (by kernel_rfl) (by kernel_rfl) (k := 0) (by kernel_rfl) (fun e => absurd e (by decide)) (by decide) ?_
  refine WD.nil ?_
  refine Go.weaken (l' := [(2, strA t13)]) (Fr.sub_cons (by kernel_rfl) (Fr.sub_nil _)) ?_
  refine n2 ?_
  refine W.ret (by kernel_rfl) ?_
  obtain ⟨hF, hF2⟩ := ret_inj hF; subst hF; subst hF2
  exact leave_of (rs := [.tmp 2]) (vs := [strA t13]) (by kernel_rfl) (res_tmp (by kernel_rfl) res_nil) (by kernel_rfl)
noncomputable def strings_Builder_String_fn (call : CallF) (n : Nat) : FnT := fun args h => match args with
  | [x0] => strings_Builder_String call n x0 h
  | _ => none
set_option maxRecDepth 100000 in
theorem strings_Builder_String_fn_eq (call : CallF) (n : Nat) (t0 : AV) (h : AHeap) : strings_Builder_String_fn call n [t0] h = strings_Builder_String call n t0 h :=
  rfl
theorem strings_Builder_String_holds {call : CallF} (hc : SaysAll Try.prog call) (n : Nat) : Holds Try.prog 31 (strings_Builder_String_fn call n) := by
  intro args h r h2 e
  unfold strings_Builder_String_fn at e
  split at e
  · exact strings_Builder_String_ok hc e
  · cases e

noncomputable def strings_Builder_copyCheck (_ : CallF) (_ : Nat) (t0 : AV) (h : AHeap) : R :=
  obind (nilC t0) fun t3 =>
  obind (fldP 0 t3) fun t4 =>
  obind (ldCell h t4) fun v5 =>
  outK (opBin Try.prog h .eql 55 true (some v5) (some AV.nilp)) fun v6 h_5 =>
  obind (avBool v6) fun t6 =>
  lett (fun  (h_9 : AHeap) =>
    some (.ret (.tup []), h_9)) fun k8 =>
  ifB t6
  (
    outK (opConv Try.prog h_5 55 102 (some t0)) fun v9 h_10 =>
    outK (externA Try.prog h_10 70 [v9]) fun v10 h_14 =>
    outK (opConv Try.prog h_14 102 55 (some v10)) fun v11 h_16 =>
    obind (nilC t0) fun t12 =>
    obind (fldP 0 t12) fun t13 =>
    obind (stRow h_16 1 (AV.cells v11) t13) fun h_20 =>
    k8 h_20)
  (
    obind (nilC t0) fun t15 =>
    obind (fldP 0 t15) fun t16 =>
    obind (ldCell h_5 t16) fun v17 =>
    outK (opBinV Try.prog h_5 .neq 55 false (some v17) (some t0)) fun v19 h_26 =>
    obind (avBool v19) fun t19 =>
    ifB t19
    (
      none)
    (
      k8 h_26))
set_option maxHeartbeats 4000000 in
set_option maxRecDepth 20000 in
theorem strings_Builder_copyCheck_ok {call : CallF} (_ : SaysAll Try.prog call) {n : Nat} {t0 : AV} {h : AHeap} {rR : ARes} {hR : AHeap} (hF : strings_Builder_copyCheck call n t0 h = some (rR, hR)) : Says Try.prog 49 [t0] h rR hR := by
  unfold strings_Builder_copyCheck at hF
  refine says_of (fn := Try.f49) Try.func49 (c := codeOf Try.f49) (by kernel_rfl) (by kernel_rfl) (fun w0 m0 => ?_)
  refine W.weaken (l' := [(0, t0)]) (Fr.sub_cons (by kernel_rfl) (Fr.sub_nil _)) ?_
  refine W.seqK (by kernel_rfl) (fun K1 n1 e1 r1 p1 => ?_)
  refine W.region (by kernel_rfl) ?_
  refine WL.val (d := (some 2)) (v := t0) (h' := h) (by kernel_rfl) (by kernel_rfl) (by kernel_rfl) ?_
  replace hF := obind_some hF; obtain ⟨t3, e2, hF⟩ := hF
  refine WL.val (d := (some 3)) (v := t3) (h' := h) (by kernel_rfl) (by kernel_rfl) (Eq.trans (by kernel_rfl) (nil_chk (h := h) e2)) ?_
  replace hF := obind_some hF; obtain ⟨t4, e3, hF⟩ := hF
  refine WL.val (d := (some 4)) (v := t4) (h' := h) (by kernel_rfl) (by kernel_rfl) (Eq.trans (by kernel_rfl) (field_ptr (P := Try.prog) (h := h) (s := 57) (f := 0) (by kernel_rfl) e3)) ?_
  replace hF := obind_some hF; obtain ⟨v5, e4, hF⟩ := hF
  refine WL.val (d := (some 5)) (v := v5) (h' := h) (by kernel_rfl) (by kernel_rfl) (Eq.trans (by kernel_rfl) (load_cell (P := Try.prog) (h := h) (t := 55) (by kernel_rfl) e4)) ?_
  replace hF := outK_some hF; obtain ⟨v6, h_5, e6, hF⟩ := hF
  replace hF := obind_some hF; obtain ⟨t6, c7, hF⟩ := hF
  have c7 := avBool_some c7
  subst c7
  refine WL.val (d := (some 6)) (v := .bool t6) (h' := h_5) (by kernel_rfl) (by kernel_rfl) (Eq.trans (by kernel_rfl) e6) ?_
  refine WL.nil (by kernel_rfl) ?_
  refine Go.weaken (l' := [(0, t0), (6, .bool t6)]) (Fr.sub_cons (by kernel_rfl) (Fr.sub_cons (by kernel_rfl) (Fr.sub_nil _))) ?_
  refine n1 ?_
  replace hF := lett_some hF; obtain ⟨k8, e8, hF⟩ := hF
  have J8 : ∀  (h_9 : AHeap), k8 h_9 = some (rR, hR) → Go w0 m0 (Func.ntmps Try.f49) (Fin Try.prog Try.f49 w0 m0 rR hR .normal) [] [] h_9 := by
    intro  h_9 hF
    rw [e8] at hF
    obtain ⟨hF, hF2⟩ := ret_inj hF; subst hF; subst hF2
    exact leaveN_of (rs := []) (vs := []) (by kernel_rfl) res_nil (by kernel_rfl)
  cases t6 with
  | true =>
    replace hF := ifB_t hF
    refine W.cond_true (by kernel_rfl) (by kernel_rfl) ?_
    refine W.region (by kernel_rfl) ?_
    refine WL.val (d := (some 7)) (v := t0) (h' := h_5) (by kernel_rfl) (by kernel_rfl) (by kernel_rfl) ?_
    refine WL.val (d := (some 8)) (v := t0) (h' := h_5) (by kernel_rfl) (by kernel_rfl) (by kernel_rfl) ?_
    replace hF := outK_some hF; obtain ⟨v9, h_10, e11, hF⟩ := hF
    refine WL.val (d := (some 9)) (v := v9) (h' := h_10) (by kernel_rfl) (by kernel_rfl) (Eq.trans (by kernel_rfl) e11) ?_
    replace hF := outK_some hF; obtain ⟨v10, h_14, e15, hF⟩ := hF
    refine WL.val (d := (some 10)) (v := v10) (h' := h_14) (by kernel_rfl) (by kernel_rfl) (Eq.trans (by kernel_rfl) e15) ?_
    replace hF := outK_some hF; obtain ⟨v11, h_16, e17, hF⟩ := hF
    refine WL.val (d := (some 11)) (v := v11) (h' := h_16) (by kernel_rfl) (by kernel_rfl) (Eq.trans (by kernel_rfl) e17) ?_
    replace hF := obind_some hF; obtain ⟨t12, e18, hF⟩ := hF
    refine WL.val (d := (some 12)) (v := t12) (h' := h_16) (by kernel_rfl) (by kernel_rfl) (Eq.trans (by kernel_rfl) (nil_chk (h := h_16) e18)) ?_
    replace hF := obind_some hF; obtain ⟨t13, e19, hF⟩ := hF
    refine WL.val (d := (some 13)) (v := t13) (h' := h_16) (by kernel_rfl) (by kernel_rfl) (Eq.trans (by kernel_rfl) (field_ptr (P := Try.prog) (h := h_16) (s := 57) (f := 0) (by kernel_rfl) e19)) ?_
    replace hF := obind_some hF; obtain ⟨h_20, e21, hF⟩ := hF
    refine WL.eff (h' := h_20) (by kernel_rfl) (by kernel_rfl) (Eq.trans (by kernel_rfl) (store_row (P := Try.prog) (h := h_16) (t := 55) (v := v11) (by kernel_rfl) (by kernel_rfl) e21)) ?_
    refine WL.nil (by kernel_rfl) ?_
    refine Go.weaken (l' := []) (Fr.sub_nil _) ?_
    exact Go.weaken (Fr.sub_nil _) (J8 _ hF)
  | false =>
    replace hF := ifB_f hF
    refine W.cond_false (by kernel_rfl) (by kernel_rfl) ?_
    refine W.seqK (by kernel_rfl) (fun K22 n22 e22 r22 p22 => ?_)
    refine W.region (by kernel_rfl) ?_
    refine WL.val (d := (some 14)) (v := t0) (h' := h_5) (by kernel_rfl) (by kernel_rfl) (by kernel_rfl) ?_
    replace hF := obind_some hF; obtain ⟨t15, e23, hF⟩ := hF
    refine WL.val (d := (some 15)) (v := t15) (h' := h_5) (by kernel_rfl) (by kernel_rfl) (Eq.trans (by kernel_rfl) (nil_chk (h := h_5) e23)) ?_
    replace hF := obind_some hF; obtain ⟨t16, e24, hF⟩ := hF
    refine WL.val (d := (some 16)) (v := t16) (h' := h_5) (by kernel_rfl) (by kernel_rfl) (Eq.trans (by kernel_rfl) (field_ptr (P := Try.prog) (h := h_5) (s := 57) (f := 0) (by kernel_rfl) e24)) ?_
    replace hF := obind_some hF; obtain ⟨v17, e25, hF⟩ := hF
    refine WL.val (d := (some 17)) (v := v17) (h' := h_5) (by kernel_rfl) (by kernel_rfl) (Eq.trans (by kernel_rfl) (load_cell (P := Try.prog) (h := h_5) (t := 55) (by kernel_rfl) e25)) ?_
    refine WL.val (d := (some 18)) (v := t0) (h' := h_5) (by kernel_rfl) (by kernel_rfl) (by kernel_rfl) ?_
    replace hF := outK_some hF; obtain ⟨v19, h_26, e27, hF⟩ := hF
    replace hF := obind_some hF; obtain ⟨t19, c28, hF⟩ := hF
    have c28 := avBool_some c28
    subst c28
    refine WL.val (d := (some 19)) (v := .bool t19) (h' := h_26) (by kernel_rfl) (by kernel_rfl) (Eq.trans (by kernel_rfl) e27) ?_
    refine WL.nil (by kernel_rfl) ?_
    refine Go.weaken (l' := [(19, .bool t19)]) (Fr.sub_cons (by kernel_rfl) (Fr.sub_nil _)) ?_
    refine n22 ?_
    cases t19 with
    | true =>
      replace hF := ifB_t hF
      refine W.cond_true (by kernel_rfl) (by kernel_rfl) ?_
      cases hF
    | false =>
      replace hF := ifB_f hF
      refine W.cond_false (by kernel_rfl) (by kernel_rfl) ?_
      refine W.skip (by kernel_rfl) ?_
      exact Go.weaken (Fr.sub_nil _) (J8 _ hF)
noncomputable def strings_Builder_copyCheck_fn (call : CallF) (n : Nat) : FnT := fun args h => match args with
  | [x0] => strings_Builder_copyCheck call n x0 h
  | _ => none
set_option maxRecDepth 100000 in
theorem strings_Builder_copyCheck_fn_eq (call : CallF) (n : Nat) (t0 : AV) (h : AHeap) : strings_Builder_copyCheck_fn call n [t0] h = strings_Builder_copyCheck call n t0 h :=
  rfl
theorem strings_Builder_copyCheck_holds {call : CallF} (hc : SaysAll Try.prog call) (n : Nat) : Holds Try.prog 49 (strings_Builder_copyCheck_fn call n) := by
  intro args h r h2 e
  unfold strings_Builder_copyCheck_fn at e
  split at e
  · exact strings_Builder_copyCheck_ok hc e
  · cases e

noncomputable def strings_Builder_WriteString (call : CallF) (_ : Nat) (t0 : AV) (t1 : Bytes) (h : AHeap) : R :=
  callN (call 49 [t0] h) fun _ h_3 =>
  obind (nilC t0) fun t10 =>
  obind (fldP 1 t10) fun t11 =>
  obind (ldCell h_3 t11) fun v12 =>
  outK (opAppend Try.prog h_3 50 9 v12 (strA t1)) fun v14 h_9 =>
  obind (nilC t0) fun t15 =>
  obind (fldP 1 t15) fun t16 =>
  obind (stRow h_9 1 (AV.cells v14) t16) fun h_13 =>
  some (.ret (.tup [.int .i64 (lenS t1), AV.nifc]), h_13)
set_option maxHeartbeats 4000000 in
set_option maxRecDepth 20000 in
theorem strings_Builder_WriteString_ok {call : CallF} (hc : SaysAll Try.prog call) {n : Nat} {t0 : AV} {t1 : Bytes} {h : AHeap} {rR : ARes} {hR : AHeap} (hF : strings_Builder_WriteString call n t0 t1 h = some (rR, hR)) : Says Try.prog 52 [t0, strA t1] h rR hR := by
  unfold strings_Builder_WriteString at hF
  refine says_of (fn := Try.f52) Try.func52 (c := codeOf Try.f52) (by kernel_rfl) (by kernel_rfl) (fun w0 m0 => ?_)
  refine W.weaken (l' := [(0, t0), (1, strA t1)]) (Fr.sub_cons (by kernel_rfl) (Fr.sub_cons (by kernel_rfl) (Fr.sub_nil _))) ?_
  refine W.seqK (by kernel_rfl) (fun K1 n1 e1 r1 p1 => ?_)
  refine W.region (by kernel_rfl) ?_
  refine WL.val (d := (some 4)) (v := .int .i64 0) (h' := h) (by kernel_rfl) (by kernel_rfl) (by kernel_rfl) ?_
  refine WL.val (d := (some 5)) (v := AV.nifc) (h' := h) (by kernel_rfl) (by kernel_rfl) (by kernel_rfl) ?_
  refine WL.nil (by kernel_rfl) ?_
  refine Go.weaken (l' := [(0, t0), (1, strA t1)]) (Fr.sub_cons (by kernel_rfl) (Fr.sub_cons (by kernel_rfl) (Fr.sub_nil _))) ?_
  refine n1 ?_
  refine W.seqK (by kernel_rfl) (fun K2 n2 e2 r2 p2 => ?_)
  refine W.region (by kernel_rfl) ?_
  refine WL.val (d := (some 6)) (v := t0) (h' := h) (by kernel_rfl) (by kernel_rfl) (by kernel_rfl) ?_
  replace hF := callN_some hF; obtain ⟨r7, h_3, e4, hF⟩ := hF
  refine WL.call (hc.ok w0) (d := (some 7)) (by kernel_rfl) (by kernel_rfl) (by kernel_rfl) e4 ?_
  refine WL.nil (by kernel_rfl) ?_
  refine Go.weaken (l' := [(0, t0), (1, strA t1)]) (Fr.sub_cons (by kernel_rfl) (Fr.sub_cons (by kernel_rfl) (Fr.sub_nil _))) ?_
  refine n2 ?_
  refine W.seqK (by kernel_rfl) (fun K5 n5 e5 r5 p5 => ?_)
  refine W.region (by kernel_rfl) ?_
  refine WL.val (d := (some 8)) (v := t0) (h' := h_3) (by kernel_rfl) (by kernel_rfl) (by kernel_rfl) ?_
  refine WL.val (d := (some 9)) (v := t0) (h' := h_3) (by kernel_rfl) (by kernel_rfl) (by kernel_rfl) ?_
  replace hF := obind_some hF; obtain ⟨t10, e6, hF⟩ := hF
  refine WL.val (d := (some 10)) (v := t10) (h' := h_3) (by kernel_rfl) (by kernel_rfl) (Eq.trans (by kernel_rfl) (nil_chk (h := h_3) e6)) ?_
  replace hF := obind_some hF; obtain ⟨t11, e7, hF⟩ := hF
  refine WL.val (d := (some 11)) (v := t11) (h' := h_3) (by kernel_rfl) (by kernel_rfl) (Eq.trans (by kernel_rfl) (field_ptr (P := Try.prog) (h := h_3) (s := 57) (f := 1) (by kernel_rfl) e7)) ?_
  replace hF := obind_some hF; obtain ⟨v12, e8, hF⟩ := hF
  refine WL.val (d := (some 12)) (v := v12) (h' := h_3) (by kernel_rfl) (by kernel_rfl) (Eq.trans (by kernel_rfl) (load_cell (P := Try.prog) (h := h_3) (t := 50) (by kernel_rfl) e8)) ?_
  refine WL.val (d := (some 13)) (v := strA t1) (h' := h_3) (by kernel_rfl) (by kernel_rfl) (by kernel_rfl) ?_
  replace hF := outK_some hF; obtain ⟨v14, h_9, e10, hF⟩ := hF
  refine WL.val (d := (some 14)) (v := v14) (h' := h_9) (by kernel_rfl) (by kernel_rfl) (Eq.trans (by kernel_rfl) e10) ?_
  replace hF := obind_some hF; obtain ⟨t15, e11, hF⟩ := hF
  refine WL.val (d := (some 15)) (v := t15) (h' := h_9) (by kernel_rfl) (by kernel_rfl) (Eq.trans (by kernel_rfl) (nil_chk (h := h_9) e11)) ?_
  replace hF := obind_some hF; obtain ⟨t16, e12, hF⟩ := hF
  refine WL.val (d := (some 16)) (v := t16) (h' := h_9) (by kernel_rfl) (by kernel_rfl) (Eq.trans (by kernel_rfl) (field_ptr (P := Try.prog) (h := h_9) (s := 57) (f := 1) (by kernel_rfl) e12)) ?_
  replace hF := obind_some hF; obtain ⟨h_13, e14, hF⟩ := hF
  refine WL.eff (h' := h_13) (by kernel_rfl) (by kernel_rfl) (Eq.trans (by kernel_rfl) (store_row (P := Try.prog) (h := h_9) (t := 50) (v := v14) (by kernel_rfl) (by kernel_rfl) e14)) ?_
  refine WL.nil (by kernel_rfl) ?_
  refine Go.weaken (l' := [(1, strA t1)]) (Fr.sub_cons (by kernel_rfl) (Fr.sub_nil _)) ?_
  refine n5 ?_
  refine W.seqK (by kernel_rfl) (fun K15 n15 e15 r15 p15 => ?_)
  refine W.region (by kernel_rfl) ?_
  refine WL.val (d := (some 17)) (v := strA t1) (h' := h_13) (by kernel_rfl) (by kernel_rfl) (by kernel_rfl) ?_
  refine WL.val (d := (some 18)) (v := .int .i64 (lenS t1)) (h' := h_13) (by kernel_rfl) (by kernel_rfl) (by kernel_rfl) ?_
  refine WL.val (d := (some 4)) (v := .int .i64 (lenS t1)) (h' := h_13) (by kernel_rfl) (by kernel_rfl) (by kernel_rfl) ?_
  refine WL.val (d := (some 5)) (v := AV.nifc) (h' := h_13) (by kernel_rfl) (by kernel_rfl) (by kernel_rfl) ?_
  refine WL.nil (by kernel_rfl) ?_
  refine Go.weaken (l' := [(4, .int .i64 (lenS t1)), (5, AV.nifc)]) (Fr.sub_cons (by kernel_rfl) (Fr.sub_cons (by kernel_rfl) (Fr.sub_nil _))) ?_
  refine n15 ?_
  refine W.ret (by kernel_rfl) ?_
  obtain ⟨hF, hF2⟩ := ret_inj hF; subst hF; subst hF2
  exact leave_of (rs := [.tmp 4, .tmp 5]) (vs := [.int .i64 (lenS t1), AV.nifc]) (by kernel_rfl) (res_tmp (by kernel_rfl) (res_tmp (by kernel_rfl) res_nil)) (by kernel_rfl)
noncomputable def strings_Builder_WriteString_fn (call : CallF) (n : Nat) : FnT := fun args h => match args with
  | [x0, x1] => obind (avStr x1) fun t1 => strings_Builder_WriteString call n x0 t1 h
  | _ => none
set_option maxRecDepth 100000 in
theorem strings_Builder_WriteString_fn_eq (call : CallF) (n : Nat) (t0 : AV) (t1 : Bytes) (h : AHeap) : strings_Builder_WriteString_fn call n [t0, strA t1] h = strings_Builder_WriteString call n t0 t1 h :=
  (Eq.trans (obind_eq (fun t1 => strings_Builder_WriteString call n t0 t1 h) (avStr_str t1)) rfl)
theorem strings_Builder_WriteString_holds {call : CallF} (hc : SaysAll Try.prog call) (n : Nat) : Holds Try.prog 52 (strings_Builder_WriteString_fn call n) := by
  intro args h r h2 e
  unfold strings_Builder_WriteString_fn at e
  split at e
  · replace e := obind_some e; obtain ⟨t1, c1, e⟩ := e; have c1 := avStr_some c1; subst c1
    exact strings_Builder_WriteString_ok hc e
  · cases e

noncomputable def strings_Builder_Len (_ : CallF) (_ : Nat) (t0 : AV) (h : AHeap) : R :=
  obind (nilC t0) fun t4 =>
  obind (fldP 1 t4) fun t5 =>
  obind (ldCell h t5) fun v6 =>
  obind (lenL v6) fun t7 =>
  some (.ret (.int .i64 t7), h)
set_option maxHeartbeats 4000000 in
set_option maxRecDepth 20000 in
theorem strings_Builder_Len_ok {call : CallF} (_ : SaysAll Try.prog call) {n : Nat} {t0 : AV} {h : AHeap} {rR : ARes} {hR : AHeap} (hF : strings_Builder_Len call n t0 h = some (rR, hR)) : Says Try.prog 56 [t0] h rR hR := by
  unfold strings_Builder_Len at hF
  refine says_of (fn := Try.f56) Try.func56 (c := codeOf Try.f56) (by kernel_rfl) (by kernel_rfl) (fun w0 m0 => ?_)
  refine W.weaken (l' := [(0, t0)]) (Fr.sub_cons (by kernel_rfl) (Fr.sub_nil _)) ?_
  refine W.seqK (by kernel_rfl) (fun K1 n1 e1 r1 p1 => ?_)
  refine W.region (by kernel_rfl) ?_
  refine WL.val (d := (some 2)) (v := .int .i64 0) (h' := h) (by kernel_rfl) (by kernel_rfl) (by kernel_rfl) ?_
  refine WL.nil (by kernel_rfl) ?_
  refine Go.weaken (l' := [(0, t0)]) (Fr.sub_cons (by kernel_rfl) (Fr.sub_nil _)) ?_
  refine n1 ?_
  refine W.seqK (by kernel_rfl) (fun K2 n2 e2 r2 p2 => ?_)
  refine W.region (by kernel_rfl) ?_
  refine WL.val (d := (some 3)) (v := t0) (h' := h) (by kernel_rfl) (by kernel_rfl) (by kernel_rfl) ?_
  replace hF := obind_some hF; obtain ⟨t4, e3, hF⟩ := hF
  refine WL.val (d := (some 4)) (v := t4) (h' := h) (by kernel_rfl) (by kernel_rfl) (Eq.trans (by kernel_rfl) (nil_chk (h := h) e3)) ?_
  replace hF := obind_some hF; obtain ⟨t5, e4, hF⟩ := hF
  refine WL.val (d := (some 5)) (v := t5) (h' := h) (by kernel_rfl) (by kernel_rfl) (Eq.trans (by kernel_rfl) (field_ptr (P := Try.prog) (h := h) (s := 57) (f := 1) (by kernel_rfl) e4)) ?_
  replace hF := obind_some hF; obtain ⟨v6, e5, hF⟩ := hF
  refine WL.val (d := (some 6)) (v := v6) (h' := h) (by kernel_rfl) (by kernel_rfl) (Eq.trans (by kernel_rfl) (load_cell (P := Try.prog) (h := h) (t := 50) (by kernel_rfl) e5)) ?_
  replace hF := obind_some hF; obtain ⟨t7, e6, hF⟩ := hF
  refine WL.val (d := (some 7)) (v := .int .i64 t7) (h' := h) (by kernel_rfl) (by kernel_rfl) (Eq.trans (by kernel_rfl) (len_row (P := Try.prog) (h := h) (t := 50) (e' := 5) (by kernel_rfl) e6)) ?_
  refine WL.val (d := (some 2)) (v := .int .i64 t7) (h' := h) (by kernel_rfl) (by kernel_rfl) (by kernel_rfl) ?_
  refine WL.nil (by kernel_rfl) ?_
  refine Go.weaken (l' := [(2, .int .i64 t7)]) (Fr.sub_cons (by kernel_rfl) (Fr.sub_nil _)) ?_
  refine n2 ?_
  refine W.ret (by kernel_rfl) ?_
  obtain ⟨hF, hF2⟩ := ret_inj hF; subst hF; subst hF2
  exact leave_of (rs := [.tmp 2]) (vs := [.int .i64 t7]) (by kernel_rfl) (res_tmp (by kernel_rfl) res_nil) (by kernel_rfl)
noncomputable def strings_Builder_Len_fn (call : CallF) (n : Nat) : FnT := fun args h => match args with
  | [x0] => strings_Builder_Len call n x0 h
  | _ => none
set_option maxRecDepth 100000 in
theorem strings_Builder_Len_fn_eq (call : CallF) (n : Nat) (t0 : AV) (h : AHeap) : strings_Builder_Len_fn call n [t0] h = strings_Builder_Len call n t0 h :=
  rfl
theorem strings_Builder_Len_holds {call : CallF} (hc : SaysAll Try.prog call) (n : Nat) : Holds Try.prog 56 (strings_Builder_Len_fn call n) := by
  intro args h r h2 e
  unfold strings_Builder_Len_fn at e
  split at e
  · exact strings_Builder_Len_ok hc e
  · cases e

end Go.Proofs.Ytijhmmimffgjiaa
