/- Plain functions in place of the program's, and that their calls come to what they say. -/
import Derived.Test.YtikaeeaepnflnaaFrame
import Derived.Test.YtikaeeaepnflnaaAbs60
namespace Go.Proofs.Ytikaeeaepnflnaa
open Go.RowKit Abs

noncomputable def law03_FrameTakes_R0A (_ : BothF) (_ : Nat) (t4 : AV) (t11 : AV) (t12 : AV) (t16 : AV) (t79 : Int) (t80 : Bytes) (h : AHeap) : R :=
  some (.ret (.tup [t4, t11, t12, t16, .int .i64 t79, strA t80]), h)
set_option maxHeartbeats 4000000 in
set_option maxRecDepth 20000 in
theorem law03_FrameTakes_R0A_ok {both : BothF} (_ : BothAll Try.prog both) {n : Nat} {t4 : AV} {t11 : AV} {t12 : AV} {t16 : AV} {t79 : Int} {t80 : Bytes} {h : AHeap} {rR : ARes} {hR : AHeap} (hF : law03_FrameTakes_R0A both n t4 t11 t12 t16 t79 t80 h = some (rR, hR)) {w0 : Base} {m0 : Map} {rd : Option Nat} {nR : Nat} {ds : DefT} : WR Try.prog w0 m0 (Func.ntmps Try.f5) rd nR (Code.r1 (Code.p1 (Code.p2 (Code.p1 (Code.p2 (Code.p2 (Code.p2 (Code.p2 (Code.p2 (Code.p2 (Code.p2 (Code.p2 (Code.p2 (Code.p2 (Code.p2 (Code.p2 (Code.p2 (codeOf Try.f5)))))))))))))))))) (Post w0 m0 (Func.ntmps Try.f5) .normal ⟨Fr.tree (tupFr [4, 11, 12, 16, 17, 18] rR), ds⟩ hR) [(4, t4), (11, t11), (12, t12), (16, t16), (79, .int .i64 t79), (80, strA t80)] ds h := by
  unfold law03_FrameTakes_R0A at hF
  refine WR.seqK (by kernel_rfl) (fun K141 n141 e141 q141 p141 => ?_)
  refine WR.region (by kernel_rfl) ?_
  refine WLR.val (d := (some 17)) (v := .int .i64 t79) (h' := h) (by kernel_rfl) (by kernel_rfl) (by kernel_rfl) ?_
  refine WLR.nil (by kernel_rfl) ?_
  refine Go.weaken (l' := [(4, t4), (11, t11), (12, t12), (16, t16), (17, .int .i64 t79), (80, strA t80)]) (Fr.sub_cons (by kernel_rfl) (Fr.sub_cons (by kernel_rfl) (Fr.sub_cons (by kernel_rfl) (Fr.sub_cons (by kernel_rfl) (Fr.sub_cons (by kernel_rfl) (Fr.sub_cons (by kernel_rfl) (Fr.sub_nil _))))))) ?_
  refine n141 ?_
  refine WR.region (by kernel_rfl) ?_
  refine WLR.val (d := (some 18)) (v := strA t80) (h' := h) (by kernel_rfl) (by kernel_rfl) (by kernel_rfl) ?_
  refine WLR.nil (by kernel_rfl) ?_
  refine Go.weaken (l' := [(4, t4), (11, t11), (12, t12), (16, t16), (17, .int .i64 t79), (18, strA t80)]) (Fr.sub_cons (by kernel_rfl) (Fr.sub_cons (by kernel_rfl) (Fr.sub_cons (by kernel_rfl) (Fr.sub_cons (by kernel_rfl) (Fr.sub_cons (by kernel_rfl) (Fr.sub_cons (by kernel_rfl) (Fr.sub_nil _))))))) ?_
  obtain ⟨hF, hF2⟩ := ret_inj hF; subst hF; subst hF2
  exact Go.postN (l' := [(4, t4), (11, t11), (12, t12), (16, t16), (17, .int .i64 t79), (18, strA t80)]) (Fr.sub_cons (by kernel_rfl) (Fr.sub_cons (by kernel_rfl) (Fr.sub_cons (by kernel_rfl) (Fr.sub_cons (by kernel_rfl) (Fr.sub_cons (by kernel_rfl) (Fr.sub_cons (by kernel_rfl) (Fr.sub_nil _)))))))
noncomputable def law03_FrameTakes_R0A_fn (both : BothF) (n : Nat) : FnT := fun args h => match args with
  | [x4, x11, x12, x16, x79, x80] => obind (avInt .i64 x79) fun t79 => obind (avStr x80) fun t80 => law03_FrameTakes_R0A both n x4 x11 x12 x16 t79 t80 h
  | _ => none
set_option maxRecDepth 100000 in
theorem law03_FrameTakes_R0A_fn_eq (both : BothF) (n : Nat) (t4 : AV) (t11 : AV) (t12 : AV) (t16 : AV) (t79 : Int) (t80 : Bytes) (h : AHeap) : law03_FrameTakes_R0A_fn both n [t4, t11, t12, t16, .int .i64 t79, strA t80] h = law03_FrameTakes_R0A both n t4 t11 t12 t16 t79 t80 h :=
  (Eq.trans (obind_eq (fun t79 => obind (avStr (strA t80)) fun t80 => law03_FrameTakes_R0A both n t4 t11 t12 t16 t79 t80 h) (avInt_int .i64 t79)) (Eq.trans (obind_eq (fun t80 => law03_FrameTakes_R0A both n t4 t11 t12 t16 t79 t80 h) (avStr_str t80)) rfl))
noncomputable def law03_FrameTakes_R0B (_ : BothF) (_ : Nat) (t4 : AV) (t11 : AV) (t12 : AV) (t16 : AV) (t17 : Int) (t18 : Bytes) (h : AHeap) : R :=
  obind (ldCell h t16) fun v81 =>
  obind (avInt .i64 v81) fun t81 =>
  obind (ldCell h t11) fun v82 =>
  obind (lenL v82) fun t83 =>
  lett (decide (t81 ≥ t83)) fun (t84 : Bool) =>
  lett (fun (t89 : Bool) (h_150 : AHeap) =>
    lett (fun (t97 : Bool) (h_153 : AHeap) =>
      ifB t97
      (
        obind (stRow h_153 1 [.bool false] t4) fun h_157 =>
        some (.ret (.int .i64 1), h_157))
      (
        obind (ldCell h_153 t16) fun v98 =>
        obind (avInt .i64 v98) fun t98 =>
        lett (IntKind.i64.wrap (t98 + 1)) fun (t99 : Int) =>
        obind (ldCell h_153 t12) fun v100 =>
        obind (avInt .i64 v100) fun t100 =>
        lett (IntKind.i64.wrap (t100 + (lenS t18))) fun (t103 : Int) =>
        lett (IntKind.i64.wrap (t103 + 12)) fun (t104 : Int) =>
        obind (stRow h_153 1 [.int .i64 t99] t16) fun h_166 =>
        chk (reLoad Try.prog h_166 3 t12 (.int .i64 t100) && (true && true)) <|
        obind (stRow h_166 1 [.int .i64 t104] t12) fun h_169 =>
        some (.ret (.int .i64 0), h_169))) fun j97 =>
    ifB t89
    (
      j97 true h_150)
    (
      obind (ldCell h_150 t11) fun v92 =>
      obind (ldCell h_150 t16) fun v93 =>
      obind (avInt .i64 v93) fun t93 =>
      obind (idxP 1 v92 t93) fun t94 =>
      obind (ldCell h_150 t94) fun v95 =>
      obind (avStr v95) fun t95 =>
      lett (!eqS t18 t95) fun (t96 : Bool) =>
      j97 t96 h_150)) fun j89 =>
  ifB t84
  (
    j89 true h)
  (
    obind (ldCell h t12) fun v87 =>
    obind (avInt .i64 v87) fun t87 =>
    lett ((t17 : Int) != t87) fun (t88 : Bool) =>
    j89 t88 h)
set_option maxHeartbeats 4000000 in
set_option maxRecDepth 20000 in
theorem law03_FrameTakes_R0B_ok {both : BothF} (hc : BothAll Try.prog both) {n : Nat} {t4 : AV} {t11 : AV} {t12 : AV} {t16 : AV} {t17 : Int} {t18 : Bytes} {h : AHeap} {rR : ARes} {hR : AHeap} (hF : law03_FrameTakes_R0B both n t4 t11 t12 t16 t17 t18 h = some (rR, hR)) {w0 : Base} {m0 : Map} {rd : Option Nat} {nR : Nat} {ds : DefT} : WR Try.prog w0 m0 (Func.ntmps Try.f5) rd nR (Code.r2 (Code.p1 (Code.p2 (Code.p1 (Code.p2 (Code.p2 (Code.p2 (Code.p2 (Code.p2 (Code.p2 (Code.p2 (Code.p2 (Code.p2 (Code.p2 (Code.p2 (Code.p2 (Code.p2 (codeOf Try.f5)))))))))))))))))) (Post w0 m0 (Func.ntmps Try.f5) (decE rR) ⟨Fr.tree [], ds⟩ hR) [(4, t4), (11, t11), (12, t12), (16, t16), (17, .int .i64 t17), (18, strA t18)] ds h := by
  unfold law03_FrameTakes_R0B at hF
  refine WR.blockK (by kernel_rfl) (fun K142 n142 s142 o142 q142 p142 => ?_)
  refine WR.seqK (by kernel_rfl) (fun K143 n143 e143 q143 p143 => ?_)
  refine WR.seqK (by kernel_rfl) (fun K144 n144 e144 q144 p144 => ?_)
  refine WR.region (by kernel_rfl) ?_
  replace hF := obind_some hF; obtain ⟨v81, e145, hF⟩ := hF
  replace hF := obind_some hF; obtain ⟨t81, c146, hF⟩ := hF
  have c146 := avInt_some c146
  subst c146
  refine WLR.val (d := (some 81)) (v := .int .i64 t81) (h' := h) (by kernel_rfl) (by kernel_rfl) (Eq.trans (by kernel_rfl) (load_cell (P := Try.prog) (h := h) (t := 3) (by kernel_rfl) e145)) ?_
  replace hF := obind_some hF; obtain ⟨v82, e147, hF⟩ := hF
  refine WLR.val (d := (some 82)) (v := v82) (h' := h) (by kernel_rfl) (by kernel_rfl) (Eq.trans (by kernel_rfl) (load_cell (P := Try.prog) (h := h) (t := 28) (by kernel_rfl) e147)) ?_
  replace hF := obind_some hF; obtain ⟨t83, e148, hF⟩ := hF
  refine WLR.val (d := (some 83)) (v := .int .i64 t83) (h' := h) (by kernel_rfl) (by kernel_rfl) (Eq.trans (by kernel_rfl) (len_row (P := Try.prog) (h := h) (t := 28) (e' := 9) (by kernel_rfl) e148)) ?_
  replace hF := lett_some hF; obtain ⟨t84, e149, hF⟩ := hF
  refine WLR.val (d := (some 84)) (v := .bool t84) (h' := h) (by kernel_rfl) (by kernel_rfl) (val_of AV.bool e149 (by kernel_rfl)) ?_
  refine WLR.val (d := (some 85)) (v := .bool t84) (h' := h) (by kernel_rfl) (by kernel_rfl) (by kernel_rfl) ?_
  replace hF := lett_some hF; obtain ⟨j89, e151, hF⟩ := hF
  have J152 : ∀ (t89 : Bool) (h_150 : AHeap), j89 t89 h_150 = some (rR, hR) → WLR Try.prog w0 m0 (Func.ntmps Try.f5) rd nR (Code.ops (Code.p1 (Code.p1 (Code.p1 (Code.r2 (Code.p1 (Code.p2 (Code.p1 (Code.p2 (Code.p2 (Code.p2 (Code.p2 (Code.p2 (Code.p2 (Code.p2 (Code.p2 (Code.p2 (Code.p2 (Code.p2 (Code.p2 (Code.p2 (codeOf Try.f5)))))))))))))))))))))) 9 K144 [(4, t4), (11, t11), (12, t12), (16, t16), (18, strA t18), (89, .bool t89)] ds h_150 := by
    intro t89 h_150 hF
    rw [e151] at hF
    refine WLR.val (d := (some 90)) (v := .bool t89) (h' := h_150) (by kernel_rfl) (by kernel_rfl) (by kernel_rfl) ?_
    replace hF := lett_some hF; obtain ⟨j97, e154, hF⟩ := hF
    have J155 : ∀ (t97 : Bool) (h_153 : AHeap), j97 t97 h_153 = some (rR, hR) → WLR Try.prog w0 m0 (Func.ntmps Try.f5) rd nR (Code.ops (Code.p1 (Code.p1 (Code.p1 (Code.r2 (Code.p1 (Code.p2 (Code.p1 (Code.p2 (Code.p2 (Code.p2 (Code.p2 (Code.p2 (Code.p2 (Code.p2 (Code.p2 (Code.p2 (Code.p2 (Code.p2 (Code.p2 (Code.p2 (codeOf Try.f5)))))))))))))))))))))) 17 K144 [(4, t4), (12, t12), (16, t16), (18, strA t18), (97, .bool t97)] ds h_153 := by
      intro t97 h_153 hF
      rw [e154] at hF
      refine WLR.nil (by kernel_rfl) ?_
      refine Go.weaken (l' := [(4, t4), (12, t12), (16, t16), (18, strA t18), (97, .bool t97)]) (Fr.sub_cons (by kernel_rfl) (Fr.sub_cons (by kernel_rfl) (Fr.sub_cons (by kernel_rfl) (Fr.sub_cons (by kernel_rfl) (Fr.sub_cons (by kernel_rfl) (Fr.sub_nil _)))))) ?_
      refine n144 ?_
      cases t97 with
      | true =>
        replace hF := ifB_t hF
        refine WR.cond_true (by kernel_rfl) (by kernel_rfl) ?_
        refine WR.seqK (by kernel_rfl) (fun K156 n156 e156 q156 p156 => ?_)
        refine WR.region (by kernel_rfl) ?_
        replace hF := obind_some hF; obtain ⟨h_157, e158, hF⟩ := hF
        refine WLR.eff (h' := h_157) (by kernel_rfl) (by kernel_rfl) (Eq.trans (by kernel_rfl) (store_row (P := Try.prog) (h := h_153) (t := 4) (v := (.bool false)) (by kernel_rfl) (by kernel_rfl) e158)) ?_
        refine WLR.nil (by kernel_rfl) ?_
        refine Go.weaken (l' := []) (Fr.sub_nil _) ?_
        refine n156 ?_
        refine WR.ret (by kernel_rfl) ?_
        refine q143 ?_
        refine q142 ?_
        obtain ⟨hF, hF2⟩ := ret_inj hF; subst hF; subst hF2
        exact Go.postR
      | false =>
        replace hF := ifB_f hF
        refine WR.cond_false (by kernel_rfl) (by kernel_rfl) ?_
        refine WR.skip (by kernel_rfl) ?_
        refine n143 ?_
        refine WR.draw (by kernel_rfl) (hc.says.ok w0) (plan := [0, 1, 2, 3, 4, 5, 6, 7, 8]) (by kernel_rfl) (by kernel_rfl) (by kernel_rfl) ?_
        replace hF := obind_some hF; obtain ⟨v98, e159, hF⟩ := hF
        replace hF := obind_some hF; obtain ⟨t98, c160, hF⟩ := hF
        have c160 := avInt_some c160
        subst c160
        refine WD.val (d := (some 98)) (v := .int .i64 t98) (h' := h_153) (by kernel_rfl) (by kernel_rfl) (Eq.trans (by kernel_rfl) (load_cell (P := Try.prog) (h := h_153) (t := 3) (by kernel_rfl) e159)) (k := 1) (by kernel_rfl) (fun e => absurd e (by decide)) (by decide) ?_
        replace hF := lett_some hF; obtain ⟨t99, e161, hF⟩ := hF
        refine WD.val (d := (some 99)) (v := .int .i64 t99) (h' := h_153) (by kernel_rfl) (by kernel_rfl) (val_of (AV.int .i64) e161 (by kernel_rfl)) (k := 0) (by kernel_rfl) (fun e => absurd e (by decide)) (by decide) ?_
        replace hF := obind_some hF; obtain ⟨v100, e162, hF⟩ := hF
        replace hF := obind_some hF; obtain ⟨t100, c163, hF⟩ := hF
        have c163 := avInt_some c163
        subst c163
        refine WD.val (d := (some 100)) (v := .int .i64 t100) (h' := h_153) (by kernel_rfl) (by kernel_rfl) (Eq.trans (by kernel_rfl) (load_cell (P := Try.prog) (h := h_153) (t := 3) (by kernel_rfl) e162)) (k := 1) (by kernel_rfl) (fun e => absurd e (by decide)) (by decide) ?_
        refine WD.val (d := (some 101)) (v := strA t18) (h' := h_153) (by kernel_rfl) (by kernel_rfl) (by kernel_rfl) (k := 0) (by kernel_rfl) (fun e => absurd e (by decide)) (by decide) ?_
        refine WD.val (d := (some 102)) (v := .int .i64 (lenS t18)) (h' := h_153) (by kernel_rfl) (by kernel_rfl) (by kernel_rfl) (k := 0) (by kernel_rfl) (fun e => absurd e (by decide)) (by decide) ?_
        replace hF := lett_some hF; obtain ⟨t103, e164, hF⟩ := hF
        refine WD.val (d := (some 103)) (v := .int .i64 t103) (h' := h_153) (by kernel_rfl) (by kernel_rfl) (val_of (AV.int .i64) e164 (by kernel_rfl)) (k := 0) (by kernel_rfl) (fun e => absurd e (by decide)) (by decide) ?_
        replace hF := lett_some hF; obtain ⟨t104, e165, hF⟩ := hF
        refine WD.val (d := (some 104)) (v := .int .i64 t104) (h' := h_153) (by kernel_rfl) (by kernel_rfl) (val_of (AV.int .i64) e165 (by kernel_rfl)) (k := 0) (by kernel_rfl) (fun e => absurd e (by decide)) (by decide) ?_
        replace hF := obind_some hF; obtain ⟨h_166, e167, hF⟩ := hF
        replace hF := chk_some hF; obtain ⟨k168, hF⟩ := hF
        refine WD.eff (h' := h_166) (by kernel_rfl) (by kernel_rfl) (Eq.trans (by kernel_rfl) (store_row (P := Try.prog) (h := h_153) (t := 3) (v := (.int .i64 t99)) (by kernel_rfl) (by kernel_rfl) e167)) (k := 2) (by kernel_rfl) (fun _ => (Eq.trans (by kernel_rfl) k168)) (by decide) ?_
        replace hF := obind_some hF; obtain ⟨h_169, e170, hF⟩ := hF
        refine WD.eff (h' := h_169) (by kernel_rfl) (by kernel_rfl) (Eq.trans (by kernel_rfl) (store_row (P := Try.prog) (h := h_166) (t := 3) (v := (.int .i64 t104)) (by kernel_rfl) (by kernel_rfl) e170)) (k := 2) (by kernel_rfl) (fun _ => (by kernel_rfl)) (by decide) ?_
        refine WD.nil ?_
        refine Go.weaken (l' := []) (Fr.sub_nil _) ?_
        refine n142 ?_
        obtain ⟨hF, hF2⟩ := ret_inj hF; subst hF; subst hF2
        exact Go.postN (l' := []) (Fr.sub_nil _)
    cases t89 with
    | true =>
      replace hF := ifB_t hF
      refine WLR.not (d := (some 91)) (by kernel_rfl) (by kernel_rfl) ?_
      refine WLR.not (d := (some 92)) (by kernel_rfl) (by kernel_rfl) ?_
      refine WLR.not (d := (some 93)) (by kernel_rfl) (by kernel_rfl) ?_
      refine WLR.not (d := (some 94)) (by kernel_rfl) (by kernel_rfl) ?_
      refine WLR.not (d := (some 95)) (by kernel_rfl) (by kernel_rfl) ?_
      refine WLR.not (d := (some 96)) (by kernel_rfl) (by kernel_rfl) ?_
      refine WLR.val (d := (some 97)) (v := .bool true) (h' := h_150) (by kernel_rfl) (by kernel_rfl) (by kernel_rfl) ?_
      exact WLR.weaken (Fr.sub_cons (by kernel_rfl) (Fr.sub_cons (by kernel_rfl) (Fr.sub_cons (by kernel_rfl) (Fr.sub_cons (by kernel_rfl) (Fr.sub_cons (by kernel_rfl) (Fr.sub_nil _)))))) (J155 _ _ hF)
    | false =>
      replace hF := ifB_f hF
      refine WLR.val (d := (some 91)) (v := strA t18) (h' := h_150) (by kernel_rfl) (by kernel_rfl) (by kernel_rfl) ?_
      replace hF := obind_some hF; obtain ⟨v92, e171, hF⟩ := hF
      refine WLR.val (d := (some 92)) (v := v92) (h' := h_150) (by kernel_rfl) (by kernel_rfl) (Eq.trans (by kernel_rfl) (load_cell (P := Try.prog) (h := h_150) (t := 28) (by kernel_rfl) e171)) ?_
      replace hF := obind_some hF; obtain ⟨v93, e172, hF⟩ := hF
      replace hF := obind_some hF; obtain ⟨t93, c173, hF⟩ := hF
      have c173 := avInt_some c173
      subst c173
      refine WLR.val (d := (some 93)) (v := .int .i64 t93) (h' := h_150) (by kernel_rfl) (by kernel_rfl) (Eq.trans (by kernel_rfl) (load_cell (P := Try.prog) (h := h_150) (t := 3) (by kernel_rfl) e172)) ?_
      replace hF := obind_some hF; obtain ⟨t94, e174, hF⟩ := hF
      refine WLR.val (d := (some 94)) (v := t94) (h' := h_150) (by kernel_rfl) (by kernel_rfl) (Eq.trans (by kernel_rfl) (index_row (P := Try.prog) (h := h_150) (t := 28) (e' := 9) (k := .i64) (by kernel_rfl) (by kernel_rfl) (by kernel_rfl) e174)) ?_
      replace hF := obind_some hF; obtain ⟨v95, e175, hF⟩ := hF
      replace hF := obind_some hF; obtain ⟨t95, c176, hF⟩ := hF
      have c176 := avStr_some c176
      subst c176
      refine WLR.val (d := (some 95)) (v := strA t95) (h' := h_150) (by kernel_rfl) (by kernel_rfl) (Eq.trans (by kernel_rfl) (load_cell (P := Try.prog) (h := h_150) (t := 9) (by kernel_rfl) e175)) ?_
      replace hF := lett_some hF; obtain ⟨t96, e177, hF⟩ := hF
      refine WLR.val (d := (some 96)) (v := .bool t96) (h' := h_150) (by kernel_rfl) (by kernel_rfl) (val_of AV.bool e177 (by kernel_rfl)) ?_
      refine WLR.val (d := (some 97)) (v := .bool t96) (h' := h_150) (by kernel_rfl) (by kernel_rfl) (by kernel_rfl) ?_
      exact WLR.weaken (Fr.sub_cons (by kernel_rfl) (Fr.sub_cons (by kernel_rfl) (Fr.sub_cons (by kernel_rfl) (Fr.sub_cons (by kernel_rfl) (Fr.sub_cons (by kernel_rfl) (Fr.sub_nil _)))))) (J155 _ _ hF)
  cases t84 with
  | true =>
    replace hF := ifB_t hF
    refine WLR.not (d := (some 86)) (by kernel_rfl) (by kernel_rfl) ?_
    refine WLR.not (d := (some 87)) (by kernel_rfl) (by kernel_rfl) ?_
    refine WLR.not (d := (some 88)) (by kernel_rfl) (by kernel_rfl) ?_
    refine WLR.val (d := (some 89)) (v := .bool true) (h' := h) (by kernel_rfl) (by kernel_rfl) (by kernel_rfl) ?_
    exact WLR.weaken (Fr.sub_cons (by kernel_rfl) (Fr.sub_cons (by kernel_rfl) (Fr.sub_cons (by kernel_rfl) (Fr.sub_cons (by kernel_rfl) (Fr.sub_cons (by kernel_rfl) (Fr.sub_cons (by kernel_rfl) (Fr.sub_nil _))))))) (J152 _ _ hF)
  | false =>
    replace hF := ifB_f hF
    refine WLR.val (d := (some 86)) (v := .int .i64 t17) (h' := h) (by kernel_rfl) (by kernel_rfl) (by kernel_rfl) ?_
    replace hF := obind_some hF; obtain ⟨v87, e178, hF⟩ := hF
    replace hF := obind_some hF; obtain ⟨t87, c179, hF⟩ := hF
    have c179 := avInt_some c179
    subst c179
    refine WLR.val (d := (some 87)) (v := .int .i64 t87) (h' := h) (by kernel_rfl) (by kernel_rfl) (Eq.trans (by kernel_rfl) (load_cell (P := Try.prog) (h := h) (t := 3) (by kernel_rfl) e178)) ?_
    replace hF := lett_some hF; obtain ⟨t88, e180, hF⟩ := hF
    refine WLR.val (d := (some 88)) (v := .bool t88) (h' := h) (by kernel_rfl) (by kernel_rfl) (val_of AV.bool e180 (by kernel_rfl)) ?_
    refine WLR.val (d := (some 89)) (v := .bool t88) (h' := h) (by kernel_rfl) (by kernel_rfl) (by kernel_rfl) ?_
    exact WLR.weaken (Fr.sub_cons (by kernel_rfl) (Fr.sub_cons (by kernel_rfl) (Fr.sub_cons (by kernel_rfl) (Fr.sub_cons (by kernel_rfl) (Fr.sub_cons (by kernel_rfl) (Fr.sub_cons (by kernel_rfl) (Fr.sub_nil _))))))) (J152 _ _ hF)
noncomputable def law03_FrameTakes_R0B_fn (both : BothF) (n : Nat) : FnT := fun args h => match args with
  | [x4, x11, x12, x16, x17, x18] => obind (avInt .i64 x17) fun t17 => obind (avStr x18) fun t18 => law03_FrameTakes_R0B both n x4 x11 x12 x16 t17 t18 h
  | _ => none
set_option maxRecDepth 100000 in
theorem law03_FrameTakes_R0B_fn_eq (both : BothF) (n : Nat) (t4 : AV) (t11 : AV) (t12 : AV) (t16 : AV) (t17 : Int) (t18 : Bytes) (h : AHeap) : law03_FrameTakes_R0B_fn both n [t4, t11, t12, t16, .int .i64 t17, strA t18] h = law03_FrameTakes_R0B both n t4 t11 t12 t16 t17 t18 h :=
  (Eq.trans (obind_eq (fun t17 => obind (avStr (strA t18)) fun t18 => law03_FrameTakes_R0B both n t4 t11 t12 t16 t17 t18 h) (avInt_int .i64 t17)) (Eq.trans (obind_eq (fun t18 => law03_FrameTakes_R0B both n t4 t11 t12 t16 t17 t18 h) (avStr_str t18)) rfl))
noncomputable def law03_FrameTakes_R0 (n : Nat) : LSite := ⟨Func.ntmps Try.f5, (Code.p1 (Code.p2 (Code.p1 (Code.p2 (Code.p2 (Code.p2 (Code.p2 (Code.p2 (Code.p2 (Code.p2 (Code.p2 (Code.p2 (Code.p2 (Code.p2 (Code.p2 (Code.p2 (codeOf Try.f5))))))))))))))))), [4, 11, 12, 16, 79, 80], fun both => law03_FrameTakes_R0A_fn both n, [4, 11, 12, 16, 17, 18], fun both => law03_FrameTakes_R0B_fn both n⟩
set_option maxRecDepth 20000 in
theorem law03_FrameTakes_R0_ok (n : Nat) : LSite.ok Try.prog (law03_FrameTakes_R0 n) where
  A := fun hc vs h r h2 e0 w0 m0 rd n2 ds => by
      have e : law03_FrameTakes_R0A_fn _ n vs h = some (r, h2) := e0
      clear e0
      unfold law03_FrameTakes_R0A_fn at e
      split at e
      · replace e := obind_some e; obtain ⟨t79, c79, e⟩ := e; have c79 := avInt_some c79; subst c79
        replace e := obind_some e; obtain ⟨t80, c80, e⟩ := e; have c80 := avStr_some c80; subst c80
        exact law03_FrameTakes_R0A_ok hc (n := n) e
      · cases e
  B := fun hc vs h r h2 e0 w0 m0 rd n2 ds => by
      have e : law03_FrameTakes_R0B_fn _ n vs h = some (r, h2) := e0
      clear e0
      unfold law03_FrameTakes_R0B_fn at e
      split at e
      · replace e := obind_some e; obtain ⟨t17, c17, e⟩ := e; have c17 := avInt_some c17; subst c17
        replace e := obind_some e; obtain ⟨t18, c18, e⟩ := e; have c18 := avStr_some c18; subst c18
        exact law03_FrameTakes_R0B_ok hc (n := n) e
      · cases e
noncomputable def law03_FrameTakes_R1A (_ : BothF) (_ : Nat) (t3 : AV) (t16 : AV) (h : AHeap) : R :=
  some (.ret (.tup [t3, t16]), h)
set_option maxHeartbeats 4000000 in
set_option maxRecDepth 20000 in
theorem law03_FrameTakes_R1A_ok {both : BothF} (_ : BothAll Try.prog both) {n : Nat} {t3 : AV} {t16 : AV} {h : AHeap} {rR : ARes} {hR : AHeap} (hF : law03_FrameTakes_R1A both n t3 t16 h = some (rR, hR)) {w0 : Base} {m0 : Map} {rd : Option Nat} {nR : Nat} {ds : DefT} : WR Try.prog w0 m0 (Func.ntmps Try.f5) rd nR (Code.r1 (Code.p1 (Code.p2 (Code.p1 (Code.p2 (Code.p2 (Code.p2 (Code.p2 (Code.p2 (Code.p2 (Code.p2 (Code.p2 (Code.p2 (Code.p2 (Code.p2 (codeOf Try.f5)))))))))))))))) (Post w0 m0 (Func.ntmps Try.f5) .normal ⟨Fr.tree (tupFr [3, 16] rR), ds⟩ hR) [(3, t3), (16, t16)] ds h := by
  unfold law03_FrameTakes_R1A at hF
  refine WR.skip (by kernel_rfl) ?_
  obtain ⟨hF, hF2⟩ := ret_inj hF; subst hF; subst hF2
  exact Go.postN (l' := [(3, t3), (16, t16)]) (Fr.sub_cons (by kernel_rfl) (Fr.sub_cons (by kernel_rfl) (Fr.sub_nil _)))
noncomputable def law03_FrameTakes_R1A_fn (both : BothF) (n : Nat) : FnT := fun args h => match args with
  | [x3, x16] => law03_FrameTakes_R1A both n x3 x16 h
  | _ => none
set_option maxRecDepth 100000 in
theorem law03_FrameTakes_R1A_fn_eq (both : BothF) (n : Nat) (t3 : AV) (t16 : AV) (h : AHeap) : law03_FrameTakes_R1A_fn both n [t3, t16] h = law03_FrameTakes_R1A both n t3 t16 h :=
  rfl
noncomputable def law03_FrameTakes_R1B (_ : BothF) (_ : Nat) (t3 : AV) (t16 : AV) (h : AHeap) : R :=
  obind (ldCell h t16) fun v73 =>
  obind (avInt .i64 v73) fun t73 =>
  obind (ldCell h t3) fun v74 =>
  obind (avInt .i64 v74) fun t74 =>
  lett ((t73 : Int) == t74) fun (t75 : Bool) =>
  ifB t75
  (
    some (.ret (.int .i64 2), h))
  (
    obind (ldCell h t16) fun v76 =>
    obind (avInt .i64 v76) fun t76 =>
    lett (IntKind.i64.wrap (t76 + 1)) fun (t77 : Int) =>
    obind (stRow h 1 [.int .i64 t77] t16) fun h_192 =>
    some (.ret (.int .i64 0), h_192))
set_option maxHeartbeats 4000000 in
set_option maxRecDepth 20000 in
theorem law03_FrameTakes_R1B_ok {both : BothF} (_ : BothAll Try.prog both) {n : Nat} {t3 : AV} {t16 : AV} {h : AHeap} {rR : ARes} {hR : AHeap} (hF : law03_FrameTakes_R1B both n t3 t16 h = some (rR, hR)) {w0 : Base} {m0 : Map} {rd : Option Nat} {nR : Nat} {ds : DefT} : WR Try.prog w0 m0 (Func.ntmps Try.f5) rd nR (Code.r2 (Code.p1 (Code.p2 (Code.p1 (Code.p2 (Code.p2 (Code.p2 (Code.p2 (Code.p2 (Code.p2 (Code.p2 (Code.p2 (Code.p2 (Code.p2 (Code.p2 (codeOf Try.f5)))))))))))))))) (Post w0 m0 (Func.ntmps Try.f5) (decE rR) ⟨Fr.tree [], ds⟩ hR) [(3, t3), (16, t16)] ds h := by
  unfold law03_FrameTakes_R1B at hF
  refine WR.blockK (by kernel_rfl) (fun K181 n181 s181 o181 q181 p181 => ?_)
  refine WR.seqK (by kernel_rfl) (fun K182 n182 e182 q182 p182 => ?_)
  refine WR.seqK (by kernel_rfl) (fun K183 n183 e183 q183 p183 => ?_)
  refine WR.region (by kernel_rfl) ?_
  replace hF := obind_some hF; obtain ⟨v73, e184, hF⟩ := hF
  replace hF := obind_some hF; obtain ⟨t73, c185, hF⟩ := hF
  have c185 := avInt_some c185
  subst c185
  refine WLR.val (d := (some 73)) (v := .int .i64 t73) (h' := h) (by kernel_rfl) (by kernel_rfl) (Eq.trans (by kernel_rfl) (load_cell (P := Try.prog) (h := h) (t := 3) (by kernel_rfl) e184)) ?_
  replace hF := obind_some hF; obtain ⟨v74, e186, hF⟩ := hF
  replace hF := obind_some hF; obtain ⟨t74, c187, hF⟩ := hF
  have c187 := avInt_some c187
  subst c187
  refine WLR.val (d := (some 74)) (v := .int .i64 t74) (h' := h) (by kernel_rfl) (by kernel_rfl) (Eq.trans (by kernel_rfl) (load_cell (P := Try.prog) (h := h) (t := 3) (by kernel_rfl) e186)) ?_
  replace hF := lett_some hF; obtain ⟨t75, e188, hF⟩ := hF
  refine WLR.val (d := (some 75)) (v := .bool t75) (h' := h) (by kernel_rfl) (by kernel_rfl) (val_of AV.bool e188 (by kernel_rfl)) ?_
  refine WLR.nil (by kernel_rfl) ?_
  refine Go.weaken (l' := [(16, t16), (75, .bool t75)]) (Fr.sub_cons (by kernel_rfl) (Fr.sub_cons (by kernel_rfl) (Fr.sub_nil _))) ?_
  refine n183 ?_
  cases t75 with
  | true =>
    replace hF := ifB_t hF
    refine WR.cond_true (by kernel_rfl) (by kernel_rfl) ?_
    refine WR.exit (by kernel_rfl) ?_
    refine e182 ?_
    refine o181 (by kernel_rfl) ?_
    obtain ⟨hF, hF2⟩ := ret_inj hF; subst hF; subst hF2
    exact Go.postE
  | false =>
    replace hF := ifB_f hF
    refine WR.cond_false (by kernel_rfl) (by kernel_rfl) ?_
    refine WR.skip (by kernel_rfl) ?_
    refine n182 ?_
    refine WR.region (by kernel_rfl) ?_
    replace hF := obind_some hF; obtain ⟨v76, e189, hF⟩ := hF
    replace hF := obind_some hF; obtain ⟨t76, c190, hF⟩ := hF
    have c190 := avInt_some c190
    subst c190
    refine WLR.val (d := (some 76)) (v := .int .i64 t76) (h' := h) (by kernel_rfl) (by kernel_rfl) (Eq.trans (by kernel_rfl) (load_cell (P := Try.prog) (h := h) (t := 3) (by kernel_rfl) e189)) ?_
    replace hF := lett_some hF; obtain ⟨t77, e191, hF⟩ := hF
    refine WLR.val (d := (some 77)) (v := .int .i64 t77) (h' := h) (by kernel_rfl) (by kernel_rfl) (val_of (AV.int .i64) e191 (by kernel_rfl)) ?_
    replace hF := obind_some hF; obtain ⟨h_192, e193, hF⟩ := hF
    refine WLR.eff (h' := h_192) (by kernel_rfl) (by kernel_rfl) (Eq.trans (by kernel_rfl) (store_row (P := Try.prog) (h := h) (t := 3) (v := (.int .i64 t77)) (by kernel_rfl) (by kernel_rfl) e193)) ?_
    refine WLR.nil (by kernel_rfl) ?_
    refine Go.weaken (l' := []) (Fr.sub_nil _) ?_
    refine n181 ?_
    obtain ⟨hF, hF2⟩ := ret_inj hF; subst hF; subst hF2
    exact Go.postN (l' := []) (Fr.sub_nil _)
noncomputable def law03_FrameTakes_R1B_fn (both : BothF) (n : Nat) : FnT := fun args h => match args with
  | [x3, x16] => law03_FrameTakes_R1B both n x3 x16 h
  | _ => none
set_option maxRecDepth 100000 in
theorem law03_FrameTakes_R1B_fn_eq (both : BothF) (n : Nat) (t3 : AV) (t16 : AV) (h : AHeap) : law03_FrameTakes_R1B_fn both n [t3, t16] h = law03_FrameTakes_R1B both n t3 t16 h :=
  rfl
noncomputable def law03_FrameTakes_R1 (n : Nat) : LSite := ⟨Func.ntmps Try.f5, (Code.p1 (Code.p2 (Code.p1 (Code.p2 (Code.p2 (Code.p2 (Code.p2 (Code.p2 (Code.p2 (Code.p2 (Code.p2 (Code.p2 (Code.p2 (Code.p2 (codeOf Try.f5))))))))))))))), [3, 16], fun both => law03_FrameTakes_R1A_fn both n, [3, 16], fun both => law03_FrameTakes_R1B_fn both n⟩
set_option maxRecDepth 20000 in
theorem law03_FrameTakes_R1_ok (n : Nat) : LSite.ok Try.prog (law03_FrameTakes_R1 n) where
  A := fun hc vs h r h2 e0 w0 m0 rd n2 ds => by
      have e : law03_FrameTakes_R1A_fn _ n vs h = some (r, h2) := e0
      clear e0
      unfold law03_FrameTakes_R1A_fn at e
      split at e
      · exact law03_FrameTakes_R1A_ok hc (n := n) e
      · cases e
  B := fun hc vs h r h2 e0 w0 m0 rd n2 ds => by
      have e : law03_FrameTakes_R1B_fn _ n vs h = some (r, h2) := e0
      clear e0
      unfold law03_FrameTakes_R1B_fn at e
      split at e
      · exact law03_FrameTakes_R1B_ok hc (n := n) e
      · cases e
noncomputable def law03_FrameTakes (both : BothF) (_ : Nat) (t0 : Bytes) (t1 : Int) (h : AHeap) : R :=
  lett (newH h 3 [.int .i64 t1]) fun h_2 =>
  lett (newH h_2 4 [.bool false]) fun h_4 =>
  callN (both false 8 [] h_4) fun r19 h_8 =>
  obind (avBool r19) fun t19 =>
  lett (!t19) fun (t20 : Bool) =>
  ifB t20
  (
    obind (stRow h_8 1 [.bool false] (newP h_2)) fun h_13 =>
    marksK [] h_13 fun h_15 =>
    obind (ldCell h_15 (newP h_2)) fun w4 =>
    some (.ret (w4), h_15))
  (
    lett (decide ((lenS t0) > 16384)) fun (t23 : Bool) =>
    ifB t23
    (
      obind (stRow h_8 1 [.bool true] (newP h_2)) fun h_21 =>
      marksK [] h_21 fun h_23 =>
      obind (ldCell h_23 (newP h_2)) fun w4_25 =>
      some (.ret (w4_25), h_23))
    (
      callN (both false 10 [strA t0] h_8) fun r26 h_27 =>
      obind (extT 0 r26) fun v27 =>
      obind (avStr v27) fun t27 =>
      obind (extT 1 r26) fun v28 =>
      obind (avInt .i64 v28) fun t28 =>
      obind (extT 2 r26) fun v29 =>
      obind (avInt .i64 v29) fun t29 =>
      callN (both false 14 [strA t0] h_27) fun r32 h_36 =>
      obind (extT 0 r32) fun v33 =>
      obind (avStr v33) fun t33 =>
      obind (extT 1 r32) fun v34 =>
      obind (avInt .i64 v34) fun t34 =>
      obind (extT 2 r32) fun v35 =>
      obind (avInt .i64 v35) fun t35 =>
      lett (!eqS t27 t33) fun (t38 : Bool) =>
      lett (fun (t43 : Bool) (h_47 : AHeap) =>
        lett (fun (t48 : Bool) (h_50 : AHeap) =>
          ifB t48
          (
            obind (stRow h_50 1 [.bool false] (newP h_2)) fun h_54 =>
            marksK [] h_54 fun h_56 =>
            obind (ldCell h_56 (newP h_2)) fun w4_58 =>
            some (.ret (w4_58), h_56))
          (
            callN (both false 15 [strA t0] h_50) fun r51 h_60 =>
            obind (extT 0 r51) fun v52 =>
            obind (extT 1 r51) fun v53 =>
            obind (avInt .i64 v53) fun t53 =>
            lett (newH h_60 28 [.nsl]) fun h_65 =>
            lett (newH h_65 3 [.int .i64 0]) fun h_67 =>
            obind (stRow h_67 1 (AV.cells v52) (newP h_60)) fun h_69 =>
            obind (stRow h_69 1 [.int .i64 t53] (newP h_65)) fun h_71 =>
            callN (both false 11 [strA t0] h_71) fun r56 h_74 =>
            obind (extT 0 r56) fun v57 =>
            obind (extT 1 r56) fun v58 =>
            obind (avInt .i64 v58) fun t58 =>
            obind (ldCell h_74 (newP h_60)) fun v60 =>
            callN (both false 12 [v57, v60] h_74) fun r61 h_82 =>
            obind (avBool r61) fun t61 =>
            lett (!t61) fun (t62 : Bool) =>
            lett (fun (t67 : Bool) (h_86 : AHeap) =>
              ifB t67
              (
                obind (stRow h_86 1 [.bool false] (newP h_2)) fun h_90 =>
                marksK [] h_90 fun h_92 =>
                obind (ldCell h_92 (newP h_2)) fun w4_94 =>
                some (.ret (w4_94), h_92))
              (
                callN (both false 16 [strA t0] h_86) fun r69 h_96 =>
                lett (newH h_96 3 [.int .i64 0]) fun h_99 =>
                obind (stRow h_99 1 [.int .i64 0] (newP h_96)) fun h_101 =>
                lett (fun (d : DefT) (h_107 : AHeap) =>
                  obind (stRow h_107 1 [.int .i64 0] (newP h_96)) fun h_109 =>
                  obind (stRow h_109 1 [.int .i64 0] (newP h_65)) fun h_111 =>
                  rngK (rngX Try.prog both (Func.ntmps Try.f5) r69 (Code.p1 (Code.p2 (Code.p1 (Code.p2 (Code.p2 (Code.p2 (Code.p2 (Code.p2 (Code.p2 (Code.p2 (Code.p2 (Code.p2 (Code.p2 (Code.p2 (Code.p2 (Code.p2 (codeOf Try.f5))))))))))))))))) (Fr.tree [(4, (newP h_2)), (11, (newP h_60)), (12, (newP h_65)), (16, (newP h_96)), (78, r69)]) d h_111) (fun h_116 =>
                    obind (ldCell h_116 (newP h_96)) fun v105 =>
                    obind (avInt .i64 v105) fun t105 =>
                    obind (ldCell h_116 (newP h_60)) fun v106 =>
                    obind (lenL v106) fun t107 =>
                    lett ((t105 : Int) == t107) fun (t108 : Bool) =>
                    obind (stRow h_116 1 [.bool t108] (newP h_2)) fun h_125 =>
                    marksK (dmark (AHeap.next h_111) :: d) h_125 fun h_127 =>
                    obind (ldCell h_127 (newP h_2)) fun w4_129 =>
                    some (.ret (w4_129), h_127)) (fun h_117 =>
                    marksK (dmark (AHeap.next h_111) :: d) h_117 fun h_130 =>
                    obind (ldCell h_130 (newP h_2)) fun w4_132 =>
                    some (.ret (w4_132), h_130)) (fun _ _ =>
                    none)) fun k106 =>
                rngK (rngX Try.prog both (Func.ntmps Try.f5) r69 (Code.p1 (Code.p2 (Code.p1 (Code.p2 (Code.p2 (Code.p2 (Code.p2 (Code.p2 (Code.p2 (Code.p2 (Code.p2 (Code.p2 (Code.p2 (Code.p2 (codeOf Try.f5))))))))))))))) (Fr.tree [(3, (newP h)), (4, (newP h_2)), (11, (newP h_60)), (12, (newP h_65)), (15, r69), (16, (newP h_96)), (70, r69)]) [] h_101) (fun h_133 =>
                  k106 (dmark (AHeap.next h_101) :: []) h_133) (fun _ =>
                  none) (fun id h_135 =>
                  ifB (Nat.beq id 0)
                  (
                    k106 (dmark (AHeap.next h_101) :: []) h_135)
                  (
                    none)))) fun j67 =>
            ifB t62
            (
              j67 true h_82)
            (
              obind (ldCell h_82 (newP h_65)) fun v65 =>
              obind (avInt .i64 v65) fun t65 =>
              lett ((t58 : Int) != t65) fun (t66 : Bool) =>
              j67 t66 h_82))) fun j48 =>
        ifB t43
        (
          j48 true h_47)
        (
          lett ((t29 : Int) != t35) fun (t47 : Bool) =>
          j48 t47 h_47)) fun j43 =>
      ifB t38
      (
        j43 true h_36)
      (
        lett ((t28 : Int) != t34) fun (t42 : Bool) =>
        j43 t42 h_36)))
set_option maxHeartbeats 4000000 in
set_option maxRecDepth 20000 in
theorem law03_FrameTakes_ok {both : BothF} (hc : BothAll Try.prog both) {n : Nat} {t0 : Bytes} {t1 : Int} {h : AHeap} {rR : ARes} {hR : AHeap} (hF : law03_FrameTakes both n t0 t1 h = some (rR, hR)) : Says Try.prog 5 [strA t0, .int .i64 t1] h rR hR := by
  unfold law03_FrameTakes at hF
  refine says_ofM (fn := Try.f5) Try.func5 (c := codeOf Try.f5) (by kernel_rfl) (by kernel_rfl) (fun w0 m0 => ?_)
  refine WR.weaken (l' := [(0, strA t0), (1, .int .i64 t1)]) (Fr.sub_cons (by kernel_rfl) (Fr.sub_cons (by kernel_rfl) (Fr.sub_nil _))) ?_
  refine WR.seqK (by kernel_rfl) (fun K1 n1 e1 q1 p1 => ?_)
  refine WR.region (by kernel_rfl) ?_
  replace hF := lett_some hF; obtain ⟨h_2, e3, hF⟩ := hF
  refine WLR.val (d := (some 3)) (v := (newP h)) (h' := h_2) (by kernel_rfl) (by kernel_rfl) (val_ofH e3 (by kernel_rfl)) ?_
  replace hF := lett_some hF; obtain ⟨h_4, e5, hF⟩ := hF
  refine WLR.val (d := (some 4)) (v := (newP h_2)) (h' := h_4) (by kernel_rfl) (by kernel_rfl) (val_ofH e5 (by kernel_rfl)) ?_
  refine WLR.nil (by kernel_rfl) ?_
  refine Go.weaken (l' := [(0, strA t0), (3, (newP h)), (4, (newP h_2))]) (Fr.sub_cons (by kernel_rfl) (Fr.sub_cons (by kernel_rfl) (Fr.sub_cons (by kernel_rfl) (Fr.sub_nil _)))) ?_
  refine n1 ?_
  refine WR.seqK (by kernel_rfl) (fun K6 n6 e6 q6 p6 => ?_)
  refine WR.seqK (by kernel_rfl) (fun K7 n7 e7 q7 p7 => ?_)
  refine WR.region (by kernel_rfl) ?_
  replace hF := callN_some hF; obtain ⟨r19, h_8, e9, hF⟩ := hF
  replace hF := obind_some hF; obtain ⟨t19, c10, hF⟩ := hF
  have c10 := avBool_some c10
  subst c10
  refine WLR.call (hc.says.ok w0) (d := (some 19)) (by kernel_rfl) (by kernel_rfl) (by kernel_rfl) e9 ?_
  replace hF := lett_some hF; obtain ⟨t20, e11, hF⟩ := hF
  refine WLR.val (d := (some 20)) (v := .bool t20) (h' := h_8) (by kernel_rfl) (by kernel_rfl) (val_of AV.bool e11 (by kernel_rfl)) ?_
  refine WLR.nil (by kernel_rfl) ?_
  refine Go.weaken (l' := [(0, strA t0), (3, (newP h)), (4, (newP h_2)), (20, .bool t20)]) (Fr.sub_cons (by kernel_rfl) (Fr.sub_cons (by kernel_rfl) (Fr.sub_cons (by kernel_rfl) (Fr.sub_cons (by kernel_rfl) (Fr.sub_nil _))))) ?_
  refine n7 ?_
  cases t20 with
  | true =>
    replace hF := ifB_t hF
    refine WR.cond_true (by kernel_rfl) (by kernel_rfl) ?_
    refine WR.seqK (by kernel_rfl) (fun K12 n12 e12 q12 p12 => ?_)
    refine WR.region (by kernel_rfl) ?_
    replace hF := obind_some hF; obtain ⟨h_13, e14, hF⟩ := hF
    refine WLR.eff (h' := h_13) (by kernel_rfl) (by kernel_rfl) (Eq.trans (by kernel_rfl) (store_row (P := Try.prog) (h := h_8) (t := 4) (v := (.bool false)) (by kernel_rfl) (by kernel_rfl) e14)) ?_
    refine WLR.nil (by kernel_rfl) ?_
    refine Go.weaken (l' := [(4, (newP h_2))]) (Fr.sub_cons (by kernel_rfl) (Fr.sub_nil _)) ?_
    refine n12 ?_
    refine WR.ret (by kernel_rfl) ?_
    refine q6 ?_
    refine Go.leaveK hF (fun h_15 hF => ?_)
    replace hF := obind_some hF; obtain ⟨w4, e16, hF⟩ := hF
    obtain ⟨hF, hF2⟩ := ret_inj hF; subst hF; subst hF2
    exact ret_of (rs := [.cell 4 4]) (vs := [w4]) (by kernel_rfl) (res_cell (by kernel_rfl) (load_cell (P := Try.prog) (h := h_15) (t := 4) (by kernel_rfl) e16) res_nil) (by kernel_rfl)
  | false =>
    replace hF := ifB_f hF
    refine WR.cond_false (by kernel_rfl) (by kernel_rfl) ?_
    refine WR.skip (by kernel_rfl) ?_
    refine n6 ?_
    refine WR.seqK (by kernel_rfl) (fun K17 n17 e17 q17 p17 => ?_)
    refine WR.seqK (by kernel_rfl) (fun K18 n18 e18 q18 p18 => ?_)
    refine WR.region (by kernel_rfl) ?_
    refine WLR.val (d := (some 21)) (v := strA t0) (h' := h_8) (by kernel_rfl) (by kernel_rfl) (by kernel_rfl) ?_
    refine WLR.val (d := (some 22)) (v := .int .i64 (lenS t0)) (h' := h_8) (by kernel_rfl) (by kernel_rfl) (by kernel_rfl) ?_
    replace hF := lett_some hF; obtain ⟨t23, e19, hF⟩ := hF
    refine WLR.val (d := (some 23)) (v := .bool t23) (h' := h_8) (by kernel_rfl) (by kernel_rfl) (val_of AV.bool e19 (by kernel_rfl)) ?_
    refine WLR.nil (by kernel_rfl) ?_
    refine Go.weaken (l' := [(0, strA t0), (3, (newP h)), (4, (newP h_2)), (23, .bool t23)]) (Fr.sub_cons (by kernel_rfl) (Fr.sub_cons (by kernel_rfl) (Fr.sub_cons (by kernel_rfl) (Fr.sub_cons (by kernel_rfl) (Fr.sub_nil _))))) ?_
    refine n18 ?_
    cases t23 with
    | true =>
      replace hF := ifB_t hF
      refine WR.cond_true (by kernel_rfl) (by kernel_rfl) ?_
      refine WR.seqK (by kernel_rfl) (fun K20 n20 e20 q20 p20 => ?_)
      refine WR.region (by kernel_rfl) ?_
      replace hF := obind_some hF; obtain ⟨h_21, e22, hF⟩ := hF
      refine WLR.eff (h' := h_21) (by kernel_rfl) (by kernel_rfl) (Eq.trans (by kernel_rfl) (store_row (P := Try.prog) (h := h_8) (t := 4) (v := (.bool true)) (by kernel_rfl) (by kernel_rfl) e22)) ?_
      refine WLR.nil (by kernel_rfl) ?_
      refine Go.weaken (l' := [(4, (newP h_2))]) (Fr.sub_cons (by kernel_rfl) (Fr.sub_nil _)) ?_
      refine n20 ?_
      refine WR.ret (by kernel_rfl) ?_
      refine q17 ?_
      refine Go.leaveK hF (fun h_23 hF => ?_)
      replace hF := obind_some hF; obtain ⟨w4_25, e24, hF⟩ := hF
      obtain ⟨hF, hF2⟩ := ret_inj hF; subst hF; subst hF2
      exact ret_of (rs := [.cell 4 4]) (vs := [w4_25]) (by kernel_rfl) (res_cell (by kernel_rfl) (load_cell (P := Try.prog) (h := h_23) (t := 4) (by kernel_rfl) e24) res_nil) (by kernel_rfl)
    | false =>
      replace hF := ifB_f hF
      refine WR.cond_false (by kernel_rfl) (by kernel_rfl) ?_
      refine WR.skip (by kernel_rfl) ?_
      refine n17 ?_
      refine WR.seqK (by kernel_rfl) (fun K26 n26 e26 q26 p26 => ?_)
      refine WR.region (by kernel_rfl) ?_
      refine WLR.val (d := (some 25)) (v := strA t0) (h' := h_8) (by kernel_rfl) (by kernel_rfl) (by kernel_rfl) ?_
      replace hF := callN_some hF; obtain ⟨r26, h_27, e28, hF⟩ := hF
      refine WLR.call (hc.says.ok w0) (d := (some 26)) (by kernel_rfl) (by kernel_rfl) (by kernel_rfl) e28 ?_
      refine WLR.val (d := (some 24)) (v := r26) (h' := h_27) (by kernel_rfl) (by kernel_rfl) (by kernel_rfl) ?_
      replace hF := obind_some hF; obtain ⟨v27, e29, hF⟩ := hF
      replace hF := obind_some hF; obtain ⟨t27, c30, hF⟩ := hF
      have c30 := avStr_some c30
      subst c30
      refine WLR.val (d := (some 27)) (v := strA t27) (h' := h_27) (by kernel_rfl) (by kernel_rfl) (Eq.trans (by kernel_rfl) (extract_tup (h := h_27) e29)) ?_
      replace hF := obind_some hF; obtain ⟨v28, e31, hF⟩ := hF
      replace hF := obind_some hF; obtain ⟨t28, c32, hF⟩ := hF
      have c32 := avInt_some c32
      subst c32
      refine WLR.val (d := (some 28)) (v := .int .i64 t28) (h' := h_27) (by kernel_rfl) (by kernel_rfl) (Eq.trans (by kernel_rfl) (extract_tup (h := h_27) e31)) ?_
      replace hF := obind_some hF; obtain ⟨v29, e33, hF⟩ := hF
      replace hF := obind_some hF; obtain ⟨t29, c34, hF⟩ := hF
      have c34 := avInt_some c34
      subst c34
      refine WLR.val (d := (some 29)) (v := .int .i64 t29) (h' := h_27) (by kernel_rfl) (by kernel_rfl) (Eq.trans (by kernel_rfl) (extract_tup (h := h_27) e33)) ?_
      refine WLR.val (d := (some 5)) (v := strA t27) (h' := h_27) (by kernel_rfl) (by kernel_rfl) (by kernel_rfl) ?_
      refine WLR.val (d := (some 6)) (v := .int .i64 t28) (h' := h_27) (by kernel_rfl) (by kernel_rfl) (by kernel_rfl) ?_
      refine WLR.val (d := (some 7)) (v := .int .i64 t29) (h' := h_27) (by kernel_rfl) (by kernel_rfl) (by kernel_rfl) ?_
      refine WLR.nil (by kernel_rfl) ?_
      refine Go.weaken (l' := [(0, strA t0), (3, (newP h)), (4, (newP h_2)), (5, strA t27), (6, .int .i64 t28), (7, .int .i64 t29)]) (Fr.sub_cons (by kernel_rfl) (Fr.sub_cons (by kernel_rfl) (Fr.sub_cons (by kernel_rfl) (Fr.sub_cons (by kernel_rfl) (Fr.sub_cons (by kernel_rfl) (Fr.sub_cons (by kernel_rfl) (Fr.sub_nil _))))))) ?_
      refine n26 ?_
      refine WR.seqK (by kernel_rfl) (fun K35 n35 e35 q35 p35 => ?_)
      refine WR.region (by kernel_rfl) ?_
      refine WLR.val (d := (some 31)) (v := strA t0) (h' := h_27) (by kernel_rfl) (by kernel_rfl) (by kernel_rfl) ?_
      replace hF := callN_some hF; obtain ⟨r32, h_36, e37, hF⟩ := hF
      refine WLR.call (hc.says.ok w0) (d := (some 32)) (by kernel_rfl) (by kernel_rfl) (by kernel_rfl) e37 ?_
      refine WLR.val (d := (some 30)) (v := r32) (h' := h_36) (by kernel_rfl) (by kernel_rfl) (by kernel_rfl) ?_
      replace hF := obind_some hF; obtain ⟨v33, e38, hF⟩ := hF
      replace hF := obind_some hF; obtain ⟨t33, c39, hF⟩ := hF
      have c39 := avStr_some c39
      subst c39
      refine WLR.val (d := (some 33)) (v := strA t33) (h' := h_36) (by kernel_rfl) (by kernel_rfl) (Eq.trans (by kernel_rfl) (extract_tup (h := h_36) e38)) ?_
      replace hF := obind_some hF; obtain ⟨v34, e40, hF⟩ := hF
      replace hF := obind_some hF; obtain ⟨t34, c41, hF⟩ := hF
      have c41 := avInt_some c41
      subst c41
      refine WLR.val (d := (some 34)) (v := .int .i64 t34) (h' := h_36) (by kernel_rfl) (by kernel_rfl) (Eq.trans (by kernel_rfl) (extract_tup (h := h_36) e40)) ?_
      replace hF := obind_some hF; obtain ⟨v35, e42, hF⟩ := hF
      replace hF := obind_some hF; obtain ⟨t35, c43, hF⟩ := hF
      have c43 := avInt_some c43
      subst c43
      refine WLR.val (d := (some 35)) (v := .int .i64 t35) (h' := h_36) (by kernel_rfl) (by kernel_rfl) (Eq.trans (by kernel_rfl) (extract_tup (h := h_36) e42)) ?_
      refine WLR.val (d := (some 8)) (v := strA t33) (h' := h_36) (by kernel_rfl) (by kernel_rfl) (by kernel_rfl) ?_
      refine WLR.val (d := (some 9)) (v := .int .i64 t34) (h' := h_36) (by kernel_rfl) (by kernel_rfl) (by kernel_rfl) ?_
      refine WLR.val (d := (some 10)) (v := .int .i64 t35) (h' := h_36) (by kernel_rfl) (by kernel_rfl) (by kernel_rfl) ?_
      refine WLR.nil (by kernel_rfl) ?_
      refine Go.weaken (l' := [(0, strA t0), (3, (newP h)), (4, (newP h_2)), (5, strA t27), (6, .int .i64 t28), (7, .int .i64 t29), (8, strA t33), (9, .int .i64 t34), (10, .int .i64 t35)]) (Fr.sub_cons (by kernel_rfl) (Fr.sub_cons (by kernel_rfl) (Fr.sub_cons (by kernel_rfl) (Fr.sub_cons (by kernel_rfl) (Fr.sub_cons (by kernel_rfl) (Fr.sub_cons (by kernel_rfl) (Fr.sub_cons (by kernel_rfl) (Fr.sub_cons (by kernel_rfl) (Fr.sub_cons (by kernel_rfl) (Fr.sub_nil _)))))))))) ?_
      refine n35 ?_
      refine WR.seqK (by kernel_rfl) (fun K44 n44 e44 q44 p44 => ?_)
      refine WR.seqK (by kernel_rfl) (fun K45 n45 e45 q45 p45 => ?_)
      refine WR.region (by kernel_rfl) ?_
      refine WLR.val (d := (some 36)) (v := strA t27) (h' := h_36) (by kernel_rfl) (by kernel_rfl) (by kernel_rfl) ?_
      refine WLR.val (d := (some 37)) (v := strA t33) (h' := h_36) (by kernel_rfl) (by kernel_rfl) (by kernel_rfl) ?_
      replace hF := lett_some hF; obtain ⟨t38, e46, hF⟩ := hF
      refine WLR.val (d := (some 38)) (v := .bool t38) (h' := h_36) (by kernel_rfl) (by kernel_rfl) (val_of AV.bool e46 (by kernel_rfl)) ?_
      refine WLR.val (d := (some 39)) (v := .bool t38) (h' := h_36) (by kernel_rfl) (by kernel_rfl) (by kernel_rfl) ?_
      replace hF := lett_some hF; obtain ⟨j43, e48, hF⟩ := hF
      have J49 : ∀ (t43 : Bool) (h_47 : AHeap), j43 t43 h_47 = some (rR, hR) → WLR Try.prog w0 m0 (Func.ntmps Try.f5) none 0 (Code.ops (Code.p1 (Code.p1 (Code.p2 (Code.p2 (Code.p2 (Code.p2 (Code.p2 (codeOf Try.f5))))))))) 8 K45 [(0, strA t0), (3, (newP h)), (4, (newP h_2)), (7, .int .i64 t29), (10, .int .i64 t35), (43, .bool t43)] [] h_47 := by
        intro t43 h_47 hF
        rw [e48] at hF
        refine WLR.val (d := (some 44)) (v := .bool t43) (h' := h_47) (by kernel_rfl) (by kernel_rfl) (by kernel_rfl) ?_
        replace hF := lett_some hF; obtain ⟨j48, e51, hF⟩ := hF
        have J52 : ∀ (t48 : Bool) (h_50 : AHeap), j48 t48 h_50 = some (rR, hR) → WLR Try.prog w0 m0 (Func.ntmps Try.f5) none 0 (Code.ops (Code.p1 (Code.p1 (Code.p2 (Code.p2 (Code.p2 (Code.p2 (Code.p2 (codeOf Try.f5))))))))) 13 K45 [(0, strA t0), (3, (newP h)), (4, (newP h_2)), (48, .bool t48)] [] h_50 := by
          intro t48 h_50 hF
          rw [e51] at hF
          refine WLR.nil (by kernel_rfl) ?_
          refine Go.weaken (l' := [(0, strA t0), (3, (newP h)), (4, (newP h_2)), (48, .bool t48)]) (Fr.sub_cons (by kernel_rfl) (Fr.sub_cons (by kernel_rfl) (Fr.sub_cons (by kernel_rfl) (Fr.sub_cons (by kernel_rfl) (Fr.sub_nil _))))) ?_
          refine n45 ?_
          cases t48 with
          | true =>
            replace hF := ifB_t hF
            refine WR.cond_true (by kernel_rfl) (by kernel_rfl) ?_
            refine WR.seqK (by kernel_rfl) (fun K53 n53 e53 q53 p53 => ?_)
            refine WR.region (by kernel_rfl) ?_
            replace hF := obind_some hF; obtain ⟨h_54, e55, hF⟩ := hF
            refine WLR.eff (h' := h_54) (by kernel_rfl) (by kernel_rfl) (Eq.trans (by kernel_rfl) (store_row (P := Try.prog) (h := h_50) (t := 4) (v := (.bool false)) (by kernel_rfl) (by kernel_rfl) e55)) ?_
            refine WLR.nil (by kernel_rfl) ?_
            refine Go.weaken (l' := [(4, (newP h_2))]) (Fr.sub_cons (by kernel_rfl) (Fr.sub_nil _)) ?_
            refine n53 ?_
            refine WR.ret (by kernel_rfl) ?_
            refine q44 ?_
            refine Go.leaveK hF (fun h_56 hF => ?_)
            replace hF := obind_some hF; obtain ⟨w4_58, e57, hF⟩ := hF
            obtain ⟨hF, hF2⟩ := ret_inj hF; subst hF; subst hF2
            exact ret_of (rs := [.cell 4 4]) (vs := [w4_58]) (by kernel_rfl) (res_cell (by kernel_rfl) (load_cell (P := Try.prog) (h := h_56) (t := 4) (by kernel_rfl) e57) res_nil) (by kernel_rfl)
          | false =>
            replace hF := ifB_f hF
            refine WR.cond_false (by kernel_rfl) (by kernel_rfl) ?_
            refine WR.skip (by kernel_rfl) ?_
            refine n44 ?_
            refine WR.seqK (by kernel_rfl) (fun K59 n59 e59 q59 p59 => ?_)
            refine WR.region (by kernel_rfl) ?_
            refine WLR.val (d := (some 50)) (v := strA t0) (h' := h_50) (by kernel_rfl) (by kernel_rfl) (by kernel_rfl) ?_
            replace hF := callN_some hF; obtain ⟨r51, h_60, e61, hF⟩ := hF
            refine WLR.call (hc.says.ok w0) (d := (some 51)) (by kernel_rfl) (by kernel_rfl) (by kernel_rfl) e61 ?_
            refine WLR.val (d := (some 49)) (v := r51) (h' := h_60) (by kernel_rfl) (by kernel_rfl) (by kernel_rfl) ?_
            replace hF := obind_some hF; obtain ⟨v52, e62, hF⟩ := hF
            refine WLR.val (d := (some 52)) (v := v52) (h' := h_60) (by kernel_rfl) (by kernel_rfl) (Eq.trans (by kernel_rfl) (extract_tup (h := h_60) e62)) ?_
            replace hF := obind_some hF; obtain ⟨v53, e63, hF⟩ := hF
            replace hF := obind_some hF; obtain ⟨t53, c64, hF⟩ := hF
            have c64 := avInt_some c64
            subst c64
            refine WLR.val (d := (some 53)) (v := .int .i64 t53) (h' := h_60) (by kernel_rfl) (by kernel_rfl) (Eq.trans (by kernel_rfl) (extract_tup (h := h_60) e63)) ?_
            replace hF := lett_some hF; obtain ⟨h_65, e66, hF⟩ := hF
            refine WLR.val (d := (some 11)) (v := (newP h_60)) (h' := h_65) (by kernel_rfl) (by kernel_rfl) (val_ofH e66 (by kernel_rfl)) ?_
            replace hF := lett_some hF; obtain ⟨h_67, e68, hF⟩ := hF
            refine WLR.val (d := (some 12)) (v := (newP h_65)) (h' := h_67) (by kernel_rfl) (by kernel_rfl) (val_ofH e68 (by kernel_rfl)) ?_
            replace hF := obind_some hF; obtain ⟨h_69, e70, hF⟩ := hF
            refine WLR.eff (h' := h_69) (by kernel_rfl) (by kernel_rfl) (Eq.trans (by kernel_rfl) (store_row (P := Try.prog) (h := h_67) (t := 28) (v := v52) (by kernel_rfl) (by kernel_rfl) e70)) ?_
            replace hF := obind_some hF; obtain ⟨h_71, e72, hF⟩ := hF
            refine WLR.eff (h' := h_71) (by kernel_rfl) (by kernel_rfl) (Eq.trans (by kernel_rfl) (store_row (P := Try.prog) (h := h_69) (t := 3) (v := (.int .i64 t53)) (by kernel_rfl) (by kernel_rfl) e72)) ?_
            refine WLR.nil (by kernel_rfl) ?_
            refine Go.weaken (l' := [(0, strA t0), (3, (newP h)), (4, (newP h_2)), (11, (newP h_60)), (12, (newP h_65))]) (Fr.sub_cons (by kernel_rfl) (Fr.sub_cons (by kernel_rfl) (Fr.sub_cons (by kernel_rfl) (Fr.sub_cons (by kernel_rfl) (Fr.sub_cons (by kernel_rfl) (Fr.sub_nil _)))))) ?_
            refine n59 ?_
            refine WR.seqK (by kernel_rfl) (fun K73 n73 e73 q73 p73 => ?_)
            refine WR.region (by kernel_rfl) ?_
            refine WLR.val (d := (some 55)) (v := strA t0) (h' := h_71) (by kernel_rfl) (by kernel_rfl) (by kernel_rfl) ?_
            replace hF := callN_some hF; obtain ⟨r56, h_74, e75, hF⟩ := hF
            refine WLR.call (hc.says.ok w0) (d := (some 56)) (by kernel_rfl) (by kernel_rfl) (by kernel_rfl) e75 ?_
            refine WLR.val (d := (some 54)) (v := r56) (h' := h_74) (by kernel_rfl) (by kernel_rfl) (by kernel_rfl) ?_
            replace hF := obind_some hF; obtain ⟨v57, e76, hF⟩ := hF
            refine WLR.val (d := (some 57)) (v := v57) (h' := h_74) (by kernel_rfl) (by kernel_rfl) (Eq.trans (by kernel_rfl) (extract_tup (h := h_74) e76)) ?_
            replace hF := obind_some hF; obtain ⟨v58, e77, hF⟩ := hF
            replace hF := obind_some hF; obtain ⟨t58, c78, hF⟩ := hF
            have c78 := avInt_some c78
            subst c78
            refine WLR.val (d := (some 58)) (v := .int .i64 t58) (h' := h_74) (by kernel_rfl) (by kernel_rfl) (Eq.trans (by kernel_rfl) (extract_tup (h := h_74) e77)) ?_
            refine WLR.val (d := (some 13)) (v := v57) (h' := h_74) (by kernel_rfl) (by kernel_rfl) (by kernel_rfl) ?_
            refine WLR.val (d := (some 14)) (v := .int .i64 t58) (h' := h_74) (by kernel_rfl) (by kernel_rfl) (by kernel_rfl) ?_
            refine WLR.nil (by kernel_rfl) ?_
            refine Go.weaken (l' := [(0, strA t0), (3, (newP h)), (4, (newP h_2)), (11, (newP h_60)), (12, (newP h_65)), (13, v57), (14, .int .i64 t58)]) (Fr.sub_cons (by kernel_rfl) (Fr.sub_cons (by kernel_rfl) (Fr.sub_cons (by kernel_rfl) (Fr.sub_cons (by kernel_rfl) (Fr.sub_cons (by kernel_rfl) (Fr.sub_cons (by kernel_rfl) (Fr.sub_cons (by kernel_rfl) (Fr.sub_nil _)))))))) ?_
            refine n73 ?_
            refine WR.seqK (by kernel_rfl) (fun K79 n79 e79 q79 p79 => ?_)
            refine WR.seqK (by kernel_rfl) (fun K80 n80 e80 q80 p80 => ?_)
            refine WR.region (by kernel_rfl) ?_
            refine WLR.val (d := (some 59)) (v := v57) (h' := h_74) (by kernel_rfl) (by kernel_rfl) (by kernel_rfl) ?_
            replace hF := obind_some hF; obtain ⟨v60, e81, hF⟩ := hF
            refine WLR.val (d := (some 60)) (v := v60) (h' := h_74) (by kernel_rfl) (by kernel_rfl) (Eq.trans (by kernel_rfl) (load_cell (P := Try.prog) (h := h_74) (t := 28) (by kernel_rfl) e81)) ?_
            replace hF := callN_some hF; obtain ⟨r61, h_82, e83, hF⟩ := hF
            replace hF := obind_some hF; obtain ⟨t61, c84, hF⟩ := hF
            have c84 := avBool_some c84
            subst c84
            refine WLR.call (hc.says.ok w0) (d := (some 61)) (by kernel_rfl) (by kernel_rfl) (by kernel_rfl) e83 ?_
            replace hF := lett_some hF; obtain ⟨t62, e85, hF⟩ := hF
            refine WLR.val (d := (some 62)) (v := .bool t62) (h' := h_82) (by kernel_rfl) (by kernel_rfl) (val_of AV.bool e85 (by kernel_rfl)) ?_
            refine WLR.val (d := (some 63)) (v := .bool t62) (h' := h_82) (by kernel_rfl) (by kernel_rfl) (by kernel_rfl) ?_
            replace hF := lett_some hF; obtain ⟨j67, e87, hF⟩ := hF
            have J88 : ∀ (t67 : Bool) (h_86 : AHeap), j67 t67 h_86 = some (rR, hR) → WLR Try.prog w0 m0 (Func.ntmps Try.f5) none 0 (Code.ops (Code.p1 (Code.p1 (Code.p2 (Code.p2 (Code.p2 (Code.p2 (Code.p2 (Code.p2 (Code.p2 (Code.p2 (codeOf Try.f5)))))))))))) 9 K80 [(0, strA t0), (3, (newP h)), (4, (newP h_2)), (11, (newP h_60)), (12, (newP h_65)), (67, .bool t67)] [] h_86 := by
              intro t67 h_86 hF
              rw [e87] at hF
              refine WLR.nil (by kernel_rfl) ?_
              refine Go.weaken (l' := [(0, strA t0), (3, (newP h)), (4, (newP h_2)), (11, (newP h_60)), (12, (newP h_65)), (67, .bool t67)]) (Fr.sub_cons (by kernel_rfl) (Fr.sub_cons (by kernel_rfl) (Fr.sub_cons (by kernel_rfl) (Fr.sub_cons (by kernel_rfl) (Fr.sub_cons (by kernel_rfl) (Fr.sub_cons (by kernel_rfl) (Fr.sub_nil _))))))) ?_
              refine n80 ?_
              cases t67 with
              | true =>
                replace hF := ifB_t hF
                refine WR.cond_true (by kernel_rfl) (by kernel_rfl) ?_
                refine WR.seqK (by kernel_rfl) (fun K89 n89 e89 q89 p89 => ?_)
                refine WR.region (by kernel_rfl) ?_
                replace hF := obind_some hF; obtain ⟨h_90, e91, hF⟩ := hF
                refine WLR.eff (h' := h_90) (by kernel_rfl) (by kernel_rfl) (Eq.trans (by kernel_rfl) (store_row (P := Try.prog) (h := h_86) (t := 4) (v := (.bool false)) (by kernel_rfl) (by kernel_rfl) e91)) ?_
                refine WLR.nil (by kernel_rfl) ?_
                refine Go.weaken (l' := [(4, (newP h_2))]) (Fr.sub_cons (by kernel_rfl) (Fr.sub_nil _)) ?_
                refine n89 ?_
                refine WR.ret (by kernel_rfl) ?_
                refine q79 ?_
                refine Go.leaveK hF (fun h_92 hF => ?_)
                replace hF := obind_some hF; obtain ⟨w4_94, e93, hF⟩ := hF
                obtain ⟨hF, hF2⟩ := ret_inj hF; subst hF; subst hF2
                exact ret_of (rs := [.cell 4 4]) (vs := [w4_94]) (by kernel_rfl) (res_cell (by kernel_rfl) (load_cell (P := Try.prog) (h := h_92) (t := 4) (by kernel_rfl) e93) res_nil) (by kernel_rfl)
              | false =>
                replace hF := ifB_f hF
                refine WR.cond_false (by kernel_rfl) (by kernel_rfl) ?_
                refine WR.skip (by kernel_rfl) ?_
                refine n79 ?_
                refine WR.seqK (by kernel_rfl) (fun K95 n95 e95 q95 p95 => ?_)
                refine WR.region (by kernel_rfl) ?_
                refine WLR.val (d := (some 68)) (v := strA t0) (h' := h_86) (by kernel_rfl) (by kernel_rfl) (by kernel_rfl) ?_
                replace hF := callN_some hF; obtain ⟨r69, h_96, e97, hF⟩ := hF
                refine WLR.call (hc.says.ok w0) (d := (some 69)) (by kernel_rfl) (by kernel_rfl) (by kernel_rfl) e97 ?_
                refine WLR.val (d := (some 15)) (v := r69) (h' := h_96) (by kernel_rfl) (by kernel_rfl) (by kernel_rfl) ?_
                refine WLR.nil (by kernel_rfl) ?_
                refine Go.weaken (l' := [(3, (newP h)), (4, (newP h_2)), (11, (newP h_60)), (12, (newP h_65)), (15, r69)]) (Fr.sub_cons (by kernel_rfl) (Fr.sub_cons (by kernel_rfl) (Fr.sub_cons (by kernel_rfl) (Fr.sub_cons (by kernel_rfl) (Fr.sub_cons (by kernel_rfl) (Fr.sub_nil _)))))) ?_
                refine n95 ?_
                refine WR.seqK (by kernel_rfl) (fun K98 n98 e98 q98 p98 => ?_)
                refine WR.region (by kernel_rfl) ?_
                replace hF := lett_some hF; obtain ⟨h_99, e100, hF⟩ := hF
                refine WLR.val (d := (some 16)) (v := (newP h_96)) (h' := h_99) (by kernel_rfl) (by kernel_rfl) (val_ofH e100 (by kernel_rfl)) ?_
                replace hF := obind_some hF; obtain ⟨h_101, e102, hF⟩ := hF
                refine WLR.eff (h' := h_101) (by kernel_rfl) (by kernel_rfl) (Eq.trans (by kernel_rfl) (store_row (P := Try.prog) (h := h_99) (t := 3) (v := (.int .i64 0)) (by kernel_rfl) (by kernel_rfl) e102)) ?_
                refine WLR.nil (by kernel_rfl) ?_
                refine Go.weaken (l' := [(3, (newP h)), (4, (newP h_2)), (11, (newP h_60)), (12, (newP h_65)), (15, r69), (16, (newP h_96))]) (Fr.sub_cons (by kernel_rfl) (Fr.sub_cons (by kernel_rfl) (Fr.sub_cons (by kernel_rfl) (Fr.sub_cons (by kernel_rfl) (Fr.sub_cons (by kernel_rfl) (Fr.sub_cons (by kernel_rfl) (Fr.sub_nil _))))))) ?_
                refine n98 ?_
                refine WR.seqK (by kernel_rfl) (fun K103 n103 e103 q103 p103 => ?_)
                refine WR.seqK (by kernel_rfl) (fun K104 n104 e104 q104 p104 => ?_)
                refine WR.region (by kernel_rfl) ?_
                refine WLR.val (d := (some 70)) (v := r69) (h' := h_101) (by kernel_rfl) (by kernel_rfl) (by kernel_rfl) ?_
                refine WLR.nil (by kernel_rfl) ?_
                refine Go.weaken (l' := [(3, (newP h)), (4, (newP h_2)), (11, (newP h_60)), (12, (newP h_65)), (15, r69), (16, (newP h_96)), (70, r69)]) (Fr.sub_cons (by kernel_rfl) (Fr.sub_cons (by kernel_rfl) (Fr.sub_cons (by kernel_rfl) (Fr.sub_cons (by kernel_rfl) (Fr.sub_cons (by kernel_rfl) (Fr.sub_cons (by kernel_rfl) (Fr.sub_cons (by kernel_rfl) (Fr.sub_nil _)))))))) ?_
                refine n104 ?_
                replace hF := lett_some hF; obtain ⟨k106, e106, hF⟩ := hF
                have J106 : ∀ (d : DefT) (h_107 : AHeap), k106 d h_107 = some (rR, hR) → Go w0 m0 (Func.ntmps Try.f5) (K103 .normal) [(4, (newP h_2)), (11, (newP h_60)), (12, (newP h_65)), (15, r69), (16, (newP h_96))] d h_107 := by
                  intro d h_107 hF
                  rw [e106] at hF
                  refine n103 ?_
                  refine WR.seqK (by kernel_rfl) (fun K108 n108 e108 q108 p108 => ?_)
                  refine WR.region (by kernel_rfl) ?_
                  replace hF := obind_some hF; obtain ⟨h_109, e110, hF⟩ := hF
                  refine WLR.eff (h' := h_109) (by kernel_rfl) (by kernel_rfl) (Eq.trans (by kernel_rfl) (store_row (P := Try.prog) (h := h_107) (t := 3) (v := (.int .i64 0)) (by kernel_rfl) (by kernel_rfl) e110)) ?_
                  replace hF := obind_some hF; obtain ⟨h_111, e112, hF⟩ := hF
                  refine WLR.eff (h' := h_111) (by kernel_rfl) (by kernel_rfl) (Eq.trans (by kernel_rfl) (store_row (P := Try.prog) (h := h_109) (t := 3) (v := (.int .i64 0)) (by kernel_rfl) (by kernel_rfl) e112)) ?_
                  refine WLR.nil (by kernel_rfl) ?_
                  refine Go.weaken (l' := [(4, (newP h_2)), (11, (newP h_60)), (12, (newP h_65)), (15, r69), (16, (newP h_96))]) (Fr.sub_cons (by kernel_rfl) (Fr.sub_cons (by kernel_rfl) (Fr.sub_cons (by kernel_rfl) (Fr.sub_cons (by kernel_rfl) (Fr.sub_cons (by kernel_rfl) (Fr.sub_nil _)))))) ?_
                  refine n108 ?_
                  refine WR.seqK (by kernel_rfl) (fun K113 n113 e113 q113 p113 => ?_)
                  refine WR.seqK (by kernel_rfl) (fun K114 n114 e114 q114 p114 => ?_)
                  refine WR.region (by kernel_rfl) ?_
                  refine WLR.val (d := (some 78)) (v := r69) (h' := h_111) (by kernel_rfl) (by kernel_rfl) (by kernel_rfl) ?_
                  refine WLR.nil (by kernel_rfl) ?_
                  refine Go.weaken (l' := [(4, (newP h_2)), (11, (newP h_60)), (12, (newP h_65)), (16, (newP h_96)), (78, r69)]) (Fr.sub_cons (by kernel_rfl) (Fr.sub_cons (by kernel_rfl) (Fr.sub_cons (by kernel_rfl) (Fr.sub_cons (by kernel_rfl) (Fr.sub_cons (by kernel_rfl) (Fr.sub_nil _)))))) ?_
                  refine n114 ?_
                  refine WR.blockK (by kernel_rfl) (fun K115 n115 s115 o115 q115 p115 => ?_)
                  refine WR.rng hc hF (fun h_116 hF => ?_) (fun h_117 hF => ?_) (fun id h_118 hF => ?_)
                  · skip
                    refine n115 ?_
                    refine n113 ?_
                    refine WR.seqK (by kernel_rfl) (fun K119 n119 e119 q119 p119 => ?_)
                    refine WR.region (by kernel_rfl) ?_
                    replace hF := obind_some hF; obtain ⟨v105, e120, hF⟩ := hF
                    replace hF := obind_some hF; obtain ⟨t105, c121, hF⟩ := hF
                    have c121 := avInt_some c121
                    subst c121
                    refine WLR.val (d := (some 105)) (v := .int .i64 t105) (h' := h_116) (by kernel_rfl) (by kernel_rfl) (Eq.trans (by kernel_rfl) (load_cell (P := Try.prog) (h := h_116) (t := 3) (by kernel_rfl) e120)) ?_
                    replace hF := obind_some hF; obtain ⟨v106, e122, hF⟩ := hF
                    refine WLR.val (d := (some 106)) (v := v106) (h' := h_116) (by kernel_rfl) (by kernel_rfl) (Eq.trans (by kernel_rfl) (load_cell (P := Try.prog) (h := h_116) (t := 28) (by kernel_rfl) e122)) ?_
                    replace hF := obind_some hF; obtain ⟨t107, e123, hF⟩ := hF
                    refine WLR.val (d := (some 107)) (v := .int .i64 t107) (h' := h_116) (by kernel_rfl) (by kernel_rfl) (Eq.trans (by kernel_rfl) (len_row (P := Try.prog) (h := h_116) (t := 28) (e' := 9) (by kernel_rfl) e123)) ?_
                    replace hF := lett_some hF; obtain ⟨t108, e124, hF⟩ := hF
                    refine WLR.val (d := (some 108)) (v := .bool t108) (h' := h_116) (by kernel_rfl) (by kernel_rfl) (val_of AV.bool e124 (by kernel_rfl)) ?_
                    replace hF := obind_some hF; obtain ⟨h_125, e126, hF⟩ := hF
                    refine WLR.eff (h' := h_125) (by kernel_rfl) (by kernel_rfl) (Eq.trans (by kernel_rfl) (store_row (P := Try.prog) (h := h_116) (t := 4) (v := (.bool t108)) (by kernel_rfl) (by kernel_rfl) e126)) ?_
                    refine WLR.nil (by kernel_rfl) ?_
                    refine Go.weaken (l' := [(4, (newP h_2))]) (Fr.sub_cons (by kernel_rfl) (Fr.sub_nil _)) ?_
                    refine n119 ?_
                    refine WR.ret (by kernel_rfl) ?_
                    refine Go.leaveK hF (fun h_127 hF => ?_)
                    replace hF := obind_some hF; obtain ⟨w4_129, e128, hF⟩ := hF
                    obtain ⟨hF, hF2⟩ := ret_inj hF; subst hF; subst hF2
                    exact ret_of (rs := [.cell 4 4]) (vs := [w4_129]) (by kernel_rfl) (res_cell (by kernel_rfl) (load_cell (P := Try.prog) (h := h_127) (t := 4) (by kernel_rfl) e128) res_nil) (by kernel_rfl)
                  · skip
                    refine q115 ?_
                    refine q113 ?_
                    refine Go.leaveK hF (fun h_130 hF => ?_)
                    replace hF := obind_some hF; obtain ⟨w4_132, e131, hF⟩ := hF
                    obtain ⟨hF, hF2⟩ := ret_inj hF; subst hF; subst hF2
                    exact ret_of (rs := [.cell 4 4]) (vs := [w4_132]) (by kernel_rfl) (res_cell (by kernel_rfl) (load_cell (P := Try.prog) (h := h_130) (t := 4) (by kernel_rfl) e131) res_nil) (by kernel_rfl)
                  · skip
                    cases hF
                refine WR.blockK (by kernel_rfl) (fun K105 n105 s105 o105 q105 p105 => ?_)
                refine WR.rng hc hF (fun h_133 hF => ?_) (fun h_134 hF => ?_) (fun id h_135 hF => ?_)
                · skip
                  refine n105 ?_
                  exact Go.weaken (Fr.sub_cons (by kernel_rfl) (Fr.sub_cons (by kernel_rfl) (Fr.sub_cons (by kernel_rfl) (Fr.sub_cons (by kernel_rfl) (Fr.sub_cons (by kernel_rfl) (Fr.sub_nil _)))))) (J106 _ _ hF)
                · skip
                  cases hF
                · skip
                  obtain ⟨rfl, hF⟩ := ifB_id hF
                  refine s105 (by kernel_rfl) ?_
                  exact Go.weaken (Fr.sub_cons (by kernel_rfl) (Fr.sub_cons (by kernel_rfl) (Fr.sub_cons (by kernel_rfl) (Fr.sub_cons (by kernel_rfl) (Fr.sub_cons (by kernel_rfl) (Fr.sub_nil _)))))) (J106 _ _ hF)
            cases t62 with
            | true =>
              replace hF := ifB_t hF
              refine WLR.not (d := (some 64)) (by kernel_rfl) (by kernel_rfl) ?_
              refine WLR.not (d := (some 65)) (by kernel_rfl) (by kernel_rfl) ?_
              refine WLR.not (d := (some 66)) (by kernel_rfl) (by kernel_rfl) ?_
              refine WLR.val (d := (some 67)) (v := .bool true) (h' := h_82) (by kernel_rfl) (by kernel_rfl) (by kernel_rfl) ?_
              exact WLR.weaken (Fr.sub_cons (by kernel_rfl) (Fr.sub_cons (by kernel_rfl) (Fr.sub_cons (by kernel_rfl) (Fr.sub_cons (by kernel_rfl) (Fr.sub_cons (by kernel_rfl) (Fr.sub_cons (by kernel_rfl) (Fr.sub_nil _))))))) (J88 _ _ hF)
            | false =>
              replace hF := ifB_f hF
              refine WLR.val (d := (some 64)) (v := .int .i64 t58) (h' := h_82) (by kernel_rfl) (by kernel_rfl) (by kernel_rfl) ?_
              replace hF := obind_some hF; obtain ⟨v65, e136, hF⟩ := hF
              replace hF := obind_some hF; obtain ⟨t65, c137, hF⟩ := hF
              have c137 := avInt_some c137
              subst c137
              refine WLR.val (d := (some 65)) (v := .int .i64 t65) (h' := h_82) (by kernel_rfl) (by kernel_rfl) (Eq.trans (by kernel_rfl) (load_cell (P := Try.prog) (h := h_82) (t := 3) (by kernel_rfl) e136)) ?_
              replace hF := lett_some hF; obtain ⟨t66, e138, hF⟩ := hF
              refine WLR.val (d := (some 66)) (v := .bool t66) (h' := h_82) (by kernel_rfl) (by kernel_rfl) (val_of AV.bool e138 (by kernel_rfl)) ?_
              refine WLR.val (d := (some 67)) (v := .bool t66) (h' := h_82) (by kernel_rfl) (by kernel_rfl) (by kernel_rfl) ?_
              exact WLR.weaken (Fr.sub_cons (by kernel_rfl) (Fr.sub_cons (by kernel_rfl) (Fr.sub_cons (by kernel_rfl) (Fr.sub_cons (by kernel_rfl) (Fr.sub_cons (by kernel_rfl) (Fr.sub_cons (by kernel_rfl) (Fr.sub_nil _))))))) (J88 _ _ hF)
        cases t43 with
        | true =>
          replace hF := ifB_t hF
          refine WLR.not (d := (some 45)) (by kernel_rfl) (by kernel_rfl) ?_
          refine WLR.not (d := (some 46)) (by kernel_rfl) (by kernel_rfl) ?_
          refine WLR.not (d := (some 47)) (by kernel_rfl) (by kernel_rfl) ?_
          refine WLR.val (d := (some 48)) (v := .bool true) (h' := h_47) (by kernel_rfl) (by kernel_rfl) (by kernel_rfl) ?_
          exact WLR.weaken (Fr.sub_cons (by kernel_rfl) (Fr.sub_cons (by kernel_rfl) (Fr.sub_cons (by kernel_rfl) (Fr.sub_cons (by kernel_rfl) (Fr.sub_nil _))))) (J52 _ _ hF)
        | false =>
          replace hF := ifB_f hF
          refine WLR.val (d := (some 45)) (v := .int .i64 t29) (h' := h_47) (by kernel_rfl) (by kernel_rfl) (by kernel_rfl) ?_
          refine WLR.val (d := (some 46)) (v := .int .i64 t35) (h' := h_47) (by kernel_rfl) (by kernel_rfl) (by kernel_rfl) ?_
          replace hF := lett_some hF; obtain ⟨t47, e139, hF⟩ := hF
          refine WLR.val (d := (some 47)) (v := .bool t47) (h' := h_47) (by kernel_rfl) (by kernel_rfl) (val_of AV.bool e139 (by kernel_rfl)) ?_
          refine WLR.val (d := (some 48)) (v := .bool t47) (h' := h_47) (by kernel_rfl) (by kernel_rfl) (by kernel_rfl) ?_
          exact WLR.weaken (Fr.sub_cons (by kernel_rfl) (Fr.sub_cons (by kernel_rfl) (Fr.sub_cons (by kernel_rfl) (Fr.sub_cons (by kernel_rfl) (Fr.sub_nil _))))) (J52 _ _ hF)
      cases t38 with
      | true =>
        replace hF := ifB_t hF
        refine WLR.not (d := (some 40)) (by kernel_rfl) (by kernel_rfl) ?_
        refine WLR.not (d := (some 41)) (by kernel_rfl) (by kernel_rfl) ?_
        refine WLR.not (d := (some 42)) (by kernel_rfl) (by kernel_rfl) ?_
        refine WLR.val (d := (some 43)) (v := .bool true) (h' := h_36) (by kernel_rfl) (by kernel_rfl) (by kernel_rfl) ?_
        exact WLR.weaken (Fr.sub_cons (by kernel_rfl) (Fr.sub_cons (by kernel_rfl) (Fr.sub_cons (by kernel_rfl) (Fr.sub_cons (by kernel_rfl) (Fr.sub_cons (by kernel_rfl) (Fr.sub_cons (by kernel_rfl) (Fr.sub_nil _))))))) (J49 _ _ hF)
      | false =>
        replace hF := ifB_f hF
        refine WLR.val (d := (some 40)) (v := .int .i64 t28) (h' := h_36) (by kernel_rfl) (by kernel_rfl) (by kernel_rfl) ?_
        refine WLR.val (d := (some 41)) (v := .int .i64 t34) (h' := h_36) (by kernel_rfl) (by kernel_rfl) (by kernel_rfl) ?_
        replace hF := lett_some hF; obtain ⟨t42, e140, hF⟩ := hF
        refine WLR.val (d := (some 42)) (v := .bool t42) (h' := h_36) (by kernel_rfl) (by kernel_rfl) (val_of AV.bool e140 (by kernel_rfl)) ?_
        refine WLR.val (d := (some 43)) (v := .bool t42) (h' := h_36) (by kernel_rfl) (by kernel_rfl) (by kernel_rfl) ?_
        exact WLR.weaken (Fr.sub_cons (by kernel_rfl) (Fr.sub_cons (by kernel_rfl) (Fr.sub_cons (by kernel_rfl) (Fr.sub_cons (by kernel_rfl) (Fr.sub_cons (by kernel_rfl) (Fr.sub_cons (by kernel_rfl) (Fr.sub_nil _))))))) (J49 _ _ hF)
noncomputable def law03_FrameTakes_fn (both : BothF) (n : Nat) : FnT := fun args h => match args with
  | [x0, x1] => obind (avStr x0) fun t0 => obind (avInt .i64 x1) fun t1 => law03_FrameTakes both n t0 t1 h
  | _ => none
set_option maxRecDepth 100000 in
theorem law03_FrameTakes_fn_eq (both : BothF) (n : Nat) (t0 : Bytes) (t1 : Int) (h : AHeap) : law03_FrameTakes_fn both n [strA t0, .int .i64 t1] h = law03_FrameTakes both n t0 t1 h :=
  (Eq.trans (obind_eq (fun t0 => obind (avInt .i64 (.int .i64 t1)) fun t1 => law03_FrameTakes both n t0 t1 h) (avStr_str t0)) (Eq.trans (obind_eq (fun t1 => law03_FrameTakes both n t0 t1 h) (avInt_int .i64 t1)) rfl))
theorem law03_FrameTakes_holds {both : BothF} (hc : BothAll Try.prog both) (n : Nat) : Holds Try.prog 5 (law03_FrameTakes_fn both n) := by
  intro args h r h2 e
  unfold law03_FrameTakes_fn at e
  split at e
  · replace e := obind_some e; obtain ⟨t0, c0, e⟩ := e; have c0 := avStr_some c0; subst c0
    replace e := obind_some e; obtain ⟨t1, c1, e⟩ := e; have c1 := avInt_some c1; subst c1
    exact law03_FrameTakes_ok hc (n := n) e
  · cases e

end Go.Proofs.Ytikaeeaepnflnaa
