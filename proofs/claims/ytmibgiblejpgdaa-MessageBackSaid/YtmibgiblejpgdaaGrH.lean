/- Plain functions in place of the program's, and that their calls come to what they say. -/
import Derived.Test.YtmibgiblejpgdaaFrame
import Derived.Test.YtmibgiblejpgdaaAbs50
namespace Go.Proofs.Ytmibgiblejpgdaa
open Go.RowKit Abs

noncomputable def law17_heavy_L0b (v10 : AV) (t11 : Int) (k14 : AHeap → R) (self : Int → Int → AHeap → R) (t3 : Int) (t12 : Int) (h_29 : AHeap) : R :=
  lett (decide (t12 < t11)) fun (t13 : Bool) =>
  ifB t13
  (
    obind (idxP 2 v10 t12) fun t14 =>
    obind (ldRow h_29 2 t14) fun t15 =>
    lett (newH h_29 42 [.int .i64 0, .str 0 0]) fun h_38 =>
    obind (stRow h_38 2 t15 (newP h_29)) fun h_40 =>
    obind (ldCell h_40 (AV.ptr (AHeap.next h_29) 1)) fun v17 =>
    obind (avStr v17) fun t17 =>
    lett (decide ((lenS t17) > 16384)) fun (t19 : Bool) =>
    ifB t19
    (
      some (.ret (.bool true), h_40))
    (
      obind (ldCell h_40 (AV.ptr (AHeap.next h_29) 1)) fun v22 =>
      obind (avStr v22) fun t22 =>
      lett (IntKind.i64.wrap (t3 + (lenS t22))) fun (t24 : Int) =>
      lett (decide (t24 > 65536)) fun (t26 : Bool) =>
      ifB t26
      (
        some (.ret (.bool true), h_40))
      (
        lett (IntKind.i64.wrap (t12 + 1)) fun (t27 : Int) =>
        self t24 t27 h_40)))
  (
    k14 h_29)
noncomputable def law17_heavy_L0 (v10 : AV) (t11 : Int) (k14 : AHeap → R) : Nat → Int → Int → AHeap → R := iterR (fun _ _ _ => none) (law17_heavy_L0b v10 t11 k14)
theorem law17_heavy_L0_s (v10 : AV) (t11 : Int) (k14 : AHeap → R) (m : Nat) : law17_heavy_L0 v10 t11 k14 (m + 1) = law17_heavy_L0b v10 t11 k14 (law17_heavy_L0 v10 t11 k14 m) := rfl
noncomputable def law17_heavy (_ : CallF) (n : Nat) (t0 : List AV) (h : AHeap) : R :=
  outK (opBox h 30 (some (.agg t0))) fun v1 h_2 =>
  obind (fldP 12 v1) fun t6 =>
  obind (ldCell h_2 t6) fun v7 =>
  obind (avStr v7) fun t7 =>
  obind (fldP 9 v1) fun t9 =>
  obind (ldCell h_2 t9) fun v10 =>
  obind (lenL v10) fun t11 =>
  lett (fun  (h_15 : AHeap) =>
    obind (fldP 12 v1) fun t28 =>
    obind (ldCell h_15 t28) fun v29 =>
    obind (avStr v29) fun t29 =>
    lett (decide ((lenS t29) > 16384)) fun (t31 : Bool) =>
    lett (fun (t37 : Bool) (h_21 : AHeap) =>
      some (.ret (.bool t37), h_21)) fun j37 =>
    ifB t31
    (
      j37 true h_15)
    (
      obind (fldP 9 v1) fun t33 =>
      obind (ldCell h_15 t33) fun v34 =>
      obind (lenL v34) fun t35 =>
      lett (decide (t35 > 1024)) fun (t36 : Bool) =>
      j37 t36 h_15)) fun k14 =>
  law17_heavy_L0 v10 t11 k14 n (lenS t7) 0 h_2
set_option maxHeartbeats 4000000 in
set_option maxRecDepth 20000 in
theorem law17_heavy_ok {call : CallF} (_ : SaysAll Try.prog call) {n : Nat} {t0 : List AV} {h : AHeap} {rR : ARes} {hR : AHeap} (hF : law17_heavy call n t0 h = some (rR, hR)) : Says Try.prog 14 [.agg t0] h rR hR := by
  unfold law17_heavy at hF
  refine says_of (fn := Try.f14) Try.func14 (c := codeOf Try.f14) (by kernel_rfl) (by kernel_rfl) (fun w0 m0 => ?_)
  refine W.weaken (l' := [(0, .agg t0)]) (Fr.c Fr.n) ?_
  refine W.s (fun K1 n1 e1 q1 p1 => ?_)
  refine W.r ?_
  replace hF := outK_some hF; obtain ⟨v1, h_2, e3, hF⟩ := hF
  refine WL.b (some 1) v1 h_2 e3 ?_
  refine WL.a (some 2) (.bool false) h_2 ?_
  refine WL.n ?_
  refine Go.weaken (l' := [(1, v1)]) (Fr.c Fr.n) ?_
  refine n1 ?_
  refine W.s (fun K4 n4 e4 q4 p4 => ?_)
  refine W.r ?_
  replace hF := obind_some hF; obtain ⟨t6, e5, hF⟩ := hF
  refine WL.b (some 6) t6 h_2 (field_ptr (P := Try.prog) (h := h_2) (s := 30) (f := 12) (by kernel_rfl) e5) ?_
  replace hF := obind_some hF; obtain ⟨v7, e6, hF⟩ := hF
  replace hF := obind_some hF; obtain ⟨t7, c7, hF⟩ := hF
  have c7 := avStr_some c7
  subst c7
  refine WL.b (some 7) (strA t7) h_2 (load_cell (P := Try.prog) (h := h_2) (t := 9) (by kernel_rfl) e6) ?_
  refine WL.a (some 8) (.int .i64 (lenS t7)) h_2 ?_
  refine WL.a (some 3) (.int .i64 (lenS t7)) h_2 ?_
  refine WL.n ?_
  refine Go.weaken (l' := [(1, v1), (3, .int .i64 (lenS t7))]) (Fr.c (Fr.c Fr.n)) ?_
  refine n4 ?_
  refine W.s (fun K8 n8 e8 q8 p8 => ?_)
  refine W.s (fun K9 n9 e9 q9 p9 => ?_)
  refine W.r ?_
  replace hF := obind_some hF; obtain ⟨t9, e10, hF⟩ := hF
  refine WL.b (some 9) t9 h_2 (field_ptr (P := Try.prog) (h := h_2) (s := 30) (f := 9) (by kernel_rfl) e10) ?_
  replace hF := obind_some hF; obtain ⟨v10, e11, hF⟩ := hF
  refine WL.b (some 10) v10 h_2 (load_cell (P := Try.prog) (h := h_2) (t := 26) (by kernel_rfl) e11) ?_
  replace hF := obind_some hF; obtain ⟨t11, e12, hF⟩ := hF
  refine WL.b (some 11) (.int .i64 t11) h_2 (len_row (P := Try.prog) (h := h_2) (t := 26) (e' := 42) (by kernel_rfl) e12) ?_
  refine WL.a (some 12) (.int .i64 0) h_2 ?_
  refine WL.n ?_
  refine Go.weaken (l' := [(1, v1), (3, .int .i64 (lenS t7)), (10, v10), (11, .int .i64 t11), (12, .int .i64 0)]) (Fr.c (Fr.c (Fr.c (Fr.c (Fr.c Fr.n))))) ?_
  refine n9 ?_
  replace hF := lett_some hF; obtain ⟨k14, e14, hF⟩ := hF
  have J14 : ∀  (h_15 : AHeap), k14 h_15 = some (rR, hR) → Go w0 m0 (Func.ntmps Try.f14) (K8 .normal) [(1, v1)] [] h_15 := by
    intro  h_15 hF
    rw [e14] at hF
    refine n8 ?_
    refine W.s (fun K16 n16 e16 q16 p16 => ?_)
    refine W.r ?_
    replace hF := obind_some hF; obtain ⟨t28, e17, hF⟩ := hF
    refine WL.b (some 28) t28 h_15 (field_ptr (P := Try.prog) (h := h_15) (s := 30) (f := 12) (by kernel_rfl) e17) ?_
    replace hF := obind_some hF; obtain ⟨v29, e18, hF⟩ := hF
    replace hF := obind_some hF; obtain ⟨t29, c19, hF⟩ := hF
    have c19 := avStr_some c19
    subst c19
    refine WL.b (some 29) (strA t29) h_15 (load_cell (P := Try.prog) (h := h_15) (t := 9) (by kernel_rfl) e18) ?_
    refine WL.a (some 30) (.int .i64 (lenS t29)) h_15 ?_
    replace hF := lett_some hF; obtain ⟨t31, e20, hF⟩ := hF
    refine WL.val (d := (some 31)) (v := .bool t31) (h' := h_15) (by kernel_rfl) (by kernel_rfl) (val_of AV.bool e20 (by kernel_rfl)) ?_
    refine WL.a (some 32) (.bool t31) h_15 ?_
    replace hF := lett_some hF; obtain ⟨j37, e22, hF⟩ := hF
    have J23 : ∀ (t37 : Bool) (h_21 : AHeap), j37 t37 h_21 = some (rR, hR) → WL Try.prog w0 m0 (Func.ntmps Try.f14) (Code.ops (Code.p1 (Code.p2 (Code.p2 (Code.p2 (codeOf Try.f14)))))) 10 K16 [(37, .bool t37)] [] h_21 := by
      intro t37 h_21 hF
      rw [e22] at hF
      refine WL.a (some 2) (.bool t37) h_21 ?_
      refine WL.n ?_
      refine Go.weaken (l' := [(2, .bool t37)]) (Fr.c Fr.n) ?_
      refine n16 ?_
      refine W.ret (by kernel_rfl) ?_
      obtain ⟨hF, hF2⟩ := ret_inj hF; subst hF; subst hF2
      exact leave_of (rs := [.tmp 2]) (vs := [.bool t37]) (by kernel_rfl) (res_tmp (by kernel_rfl) res_nil) (by kernel_rfl)
    cases t31 with
    | true =>
      replace hF := ifB_t hF
      refine WL.o (some 33) ?_
      refine WL.o (some 34) ?_
      refine WL.o (some 35) ?_
      refine WL.o (some 36) ?_
      refine WL.a (some 37) (.bool true) h_15 ?_
      exact WL.weaken (Fr.c Fr.n) (J23 _ _ hF)
    | false =>
      replace hF := ifB_f hF
      replace hF := obind_some hF; obtain ⟨t33, e24, hF⟩ := hF
      refine WL.b (some 33) t33 h_15 (field_ptr (P := Try.prog) (h := h_15) (s := 30) (f := 9) (by kernel_rfl) e24) ?_
      replace hF := obind_some hF; obtain ⟨v34, e25, hF⟩ := hF
      refine WL.b (some 34) v34 h_15 (load_cell (P := Try.prog) (h := h_15) (t := 26) (by kernel_rfl) e25) ?_
      replace hF := obind_some hF; obtain ⟨t35, e26, hF⟩ := hF
      refine WL.b (some 35) (.int .i64 t35) h_15 (len_row (P := Try.prog) (h := h_15) (t := 26) (e' := 42) (by kernel_rfl) e26) ?_
      replace hF := lett_some hF; obtain ⟨t36, e27, hF⟩ := hF
      refine WL.val (d := (some 36)) (v := .bool t36) (h' := h_15) (by kernel_rfl) (by kernel_rfl) (val_of AV.bool e27 (by kernel_rfl)) ?_
      refine WL.a (some 37) (.bool t36) h_15 ?_
      exact WL.weaken (Fr.c Fr.n) (J23 _ _ hF)
  refine W.blockK (by kernel_rfl) (fun K13 n13 s13 o13 q13 p13 => ?_)
  refine W.loopK (by kernel_rfl) (fun I28 K28 b28 n28 e28 q28 p28 => ?_)
  have L28 : ∀ (m : Nat) (t3 : Int) (t12 : Int) (h_29 : AHeap), law17_heavy_L0 v10 t11 k14 m t3 t12 h_29 = some (rR, hR) → Go w0 m0 (Func.ntmps Try.f14) I28 [(1, v1), (3, .int .i64 t3), (10, v10), (11, .int .i64 t11), (12, .int .i64 t12)] [] h_29 := by
    intro m
    induction m with
    | zero => intro t3 t12 h_29 hF; cases hF
    | succ m ih28 =>
      intro t3 t12 h_29 hF
      rw [law17_heavy_L0_s] at hF; unfold law17_heavy_L0b at hF
      refine b28 ?_
      refine W.s (fun K30 n30 e30 q30 p30 => ?_)
      refine W.r ?_
      replace hF := lett_some hF; obtain ⟨t13, e31, hF⟩ := hF
      refine WL.val (d := (some 13)) (v := .bool t13) (h' := h_29) (by kernel_rfl) (by kernel_rfl) (val_of AV.bool e31 (by kernel_rfl)) ?_
      refine WL.n ?_
      refine Go.weaken (l' := [(1, v1), (3, .int .i64 t3), (10, v10), (11, .int .i64 t11), (12, .int .i64 t12), (13, .bool t13)]) (Fr.c (Fr.c (Fr.c (Fr.c (Fr.c (Fr.c Fr.n)))))) ?_
      refine n30 ?_
      refine W.s (fun K32 n32 e32 q32 p32 => ?_)
      cases t13 with
      | true =>
        replace hF := ifB_t hF
        refine W.t ?_
        refine W.skip (by kernel_rfl) ?_
        refine n32 ?_
        refine W.s (fun K33 n33 e33 q33 p33 => ?_)
        refine W.blockK (by kernel_rfl) (fun K34 n34 s34 o34 q34 p34 => ?_)
        refine W.s (fun K35 n35 e35 q35 p35 => ?_)
        refine W.r ?_
        replace hF := obind_some hF; obtain ⟨t14, e36, hF⟩ := hF
        refine WL.b (some 14) t14 h_29 (index_row (P := Try.prog) (h := h_29) (t := 26) (e' := 42) (k := .i64) (by kernel_rfl) (by kernel_rfl) (by kernel_rfl) e36) ?_
        replace hF := obind_some hF; obtain ⟨t15, e37, hF⟩ := hF
        refine WL.b (some 15) (.agg t15) h_29 (load_row (P := Try.prog) (h := h_29) (t := 42) (by kernel_rfl) (by kernel_rfl) e37) ?_
        replace hF := lett_some hF; obtain ⟨h_38, e39, hF⟩ := hF
        refine WL.val (d := (some 5)) (v := (newP h_29)) (h' := h_38) (by kernel_rfl) (by kernel_rfl) (val_ofH e39 (by kernel_rfl)) ?_
        replace hF := obind_some hF; obtain ⟨h_40, e41, hF⟩ := hF
        refine WL.e h_40 (store_row (P := Try.prog) (h := h_38) (t := 42) (v := (.agg t15)) (by kernel_rfl) (by kernel_rfl) e41) ?_
        refine WL.n ?_
        refine Go.weaken (l' := [(1, v1), (3, .int .i64 t3), (5, (newP h_29)), (10, v10), (11, .int .i64 t11), (12, .int .i64 t12)]) (Fr.c (Fr.c (Fr.c (Fr.c (Fr.c (Fr.c Fr.n)))))) ?_
        refine n35 ?_
        refine W.s (fun K42 n42 e42 q42 p42 => ?_)
        refine W.s (fun K43 n43 e43 q43 p43 => ?_)
        refine W.r ?_
        refine WL.a (some 16) (AV.ptr (AHeap.next h_29) 1) h_40 ?_
        replace hF := obind_some hF; obtain ⟨v17, e44, hF⟩ := hF
        replace hF := obind_some hF; obtain ⟨t17, c45, hF⟩ := hF
        have c45 := avStr_some c45
        subst c45
        refine WL.b (some 17) (strA t17) h_40 (load_cell (P := Try.prog) (h := h_40) (t := 9) (by kernel_rfl) e44) ?_
        refine WL.a (some 18) (.int .i64 (lenS t17)) h_40 ?_
        replace hF := lett_some hF; obtain ⟨t19, e46, hF⟩ := hF
        refine WL.val (d := (some 19)) (v := .bool t19) (h' := h_40) (by kernel_rfl) (by kernel_rfl) (val_of AV.bool e46 (by kernel_rfl)) ?_
        refine WL.n ?_
        refine Go.weaken (l' := [(1, v1), (3, .int .i64 t3), (5, (newP h_29)), (10, v10), (11, .int .i64 t11), (12, .int .i64 t12), (19, .bool t19)]) (Fr.c (Fr.c (Fr.c (Fr.c (Fr.c (Fr.c (Fr.c Fr.n))))))) ?_
        refine n43 ?_
        cases t19 with
        | true =>
          replace hF := ifB_t hF
          refine W.t ?_
          refine W.s (fun K47 n47 e47 q47 p47 => ?_)
          refine W.r ?_
          refine WL.a (some 2) (.bool true) h_40 ?_
          refine WL.n ?_
          refine Go.weaken (l' := [(2, .bool true)]) (Fr.c Fr.n) ?_
          refine n47 ?_
          refine W.ret (by kernel_rfl) ?_
          refine q42 ?_
          refine q34 ?_
          refine q33 ?_
          refine q28 ?_
          refine q13 ?_
          refine q8 ?_
          obtain ⟨hF, hF2⟩ := ret_inj hF; subst hF; subst hF2
          exact leave_of (rs := [.tmp 2]) (vs := [.bool true]) (by kernel_rfl) (res_tmp (by kernel_rfl) res_nil) (by kernel_rfl)
        | false =>
          replace hF := ifB_f hF
          refine W.f ?_
          refine W.skip (by kernel_rfl) ?_
          refine n42 ?_
          refine W.s (fun K48 n48 e48 q48 p48 => ?_)
          refine W.r ?_
          refine WL.a (some 20) (.int .i64 t3) h_40 ?_
          refine WL.a (some 21) (AV.ptr (AHeap.next h_29) 1) h_40 ?_
          replace hF := obind_some hF; obtain ⟨v22, e49, hF⟩ := hF
          replace hF := obind_some hF; obtain ⟨t22, c50, hF⟩ := hF
          have c50 := avStr_some c50
          subst c50
          refine WL.b (some 22) (strA t22) h_40 (load_cell (P := Try.prog) (h := h_40) (t := 9) (by kernel_rfl) e49) ?_
          refine WL.a (some 23) (.int .i64 (lenS t22)) h_40 ?_
          replace hF := lett_some hF; obtain ⟨t24, e51, hF⟩ := hF
          refine WL.val (d := (some 24)) (v := .int .i64 t24) (h' := h_40) (by kernel_rfl) (by kernel_rfl) (val_of (AV.int .i64) e51 (by kernel_rfl)) ?_
          refine WL.a (some 3) (.int .i64 t24) h_40 ?_
          refine WL.n ?_
          refine Go.weaken (l' := [(1, v1), (3, .int .i64 t24), (10, v10), (11, .int .i64 t11), (12, .int .i64 t12)]) (Fr.c (Fr.c (Fr.c (Fr.c (Fr.c Fr.n))))) ?_
          refine n48 ?_
          refine W.s (fun K52 n52 e52 q52 p52 => ?_)
          refine W.r ?_
          refine WL.a (some 25) (.int .i64 t24) h_40 ?_
          replace hF := lett_some hF; obtain ⟨t26, e53, hF⟩ := hF
          refine WL.val (d := (some 26)) (v := .bool t26) (h' := h_40) (by kernel_rfl) (by kernel_rfl) (val_of AV.bool e53 (by kernel_rfl)) ?_
          refine WL.n ?_
          refine Go.weaken (l' := [(1, v1), (3, .int .i64 t24), (10, v10), (11, .int .i64 t11), (12, .int .i64 t12), (26, .bool t26)]) (Fr.c (Fr.c (Fr.c (Fr.c (Fr.c (Fr.c Fr.n)))))) ?_
          refine n52 ?_
          cases t26 with
          | true =>
            replace hF := ifB_t hF
            refine W.t ?_
            refine W.s (fun K54 n54 e54 q54 p54 => ?_)
            refine W.r ?_
            refine WL.a (some 2) (.bool true) h_40 ?_
            refine WL.n ?_
            refine Go.weaken (l' := [(2, .bool true)]) (Fr.c Fr.n) ?_
            refine n54 ?_
            refine W.ret (by kernel_rfl) ?_
            refine q34 ?_
            refine q33 ?_
            refine q28 ?_
            refine q13 ?_
            refine q8 ?_
            obtain ⟨hF, hF2⟩ := ret_inj hF; subst hF; subst hF2
            exact leave_of (rs := [.tmp 2]) (vs := [.bool true]) (by kernel_rfl) (res_tmp (by kernel_rfl) res_nil) (by kernel_rfl)
          | false =>
            replace hF := ifB_f hF
            refine W.f ?_
            refine W.skip (by kernel_rfl) ?_
            refine n34 ?_
            refine n33 ?_
            refine W.r ?_
            replace hF := lett_some hF; obtain ⟨t27, e55, hF⟩ := hF
            refine WL.val (d := (some 27)) (v := .int .i64 t27) (h' := h_40) (by kernel_rfl) (by kernel_rfl) (val_of (AV.int .i64) e55 (by kernel_rfl)) ?_
            refine WL.a (some 12) (.int .i64 t27) h_40 ?_
            refine WL.n ?_
            refine Go.weaken (l' := [(1, v1), (3, .int .i64 t24), (10, v10), (11, .int .i64 t11), (12, .int .i64 t27)]) (Fr.c (Fr.c (Fr.c (Fr.c (Fr.c Fr.n))))) ?_
            refine n28 ?_
            exact Go.weaken (Fr.c (Fr.c (Fr.c (Fr.c (Fr.c Fr.n))))) (ih28 _ _ _ hF)
      | false =>
        replace hF := ifB_f hF
        refine W.f ?_
        refine W.exit (by kernel_rfl) ?_
        refine e32 ?_
        refine e28 ?_
        refine s13 (by kernel_rfl) ?_
        exact Go.weaken (Fr.c Fr.n) (J14 _ hF)
  exact Go.weaken (Fr.c (Fr.c (Fr.c (Fr.c (Fr.c Fr.n))))) (L28 _ _ _ _ hF)
noncomputable def law17_heavy_fn (call : CallF) (n : Nat) : FnT := fun args h => match args with
  | [x0] => obind (avAgg x0) fun t0 => law17_heavy call n t0 h
  | _ => none
set_option maxRecDepth 100000 in
theorem law17_heavy_fn_eq (call : CallF) (n : Nat) (t0 : List AV) (h : AHeap) : law17_heavy_fn call n [.agg t0] h = law17_heavy call n t0 h :=
  (Eq.trans (obind_eq (fun t0 => law17_heavy call n t0 h) (avAgg_agg t0)) rfl)
theorem law17_heavy_holds {call : CallF} (hc : SaysAll Try.prog call) (n : Nat) : Holds Try.prog 14 (law17_heavy_fn call n) := by
  intro args h r h2 e
  unfold law17_heavy_fn at e
  split at e
  · replace e := obind_some e; obtain ⟨t0, c0, e⟩ := e; have c0 := avAgg_some c0; subst c0
    exact law17_heavy_ok hc e
  · cases e

end Go.Proofs.Ytmibgiblejpgdaa
