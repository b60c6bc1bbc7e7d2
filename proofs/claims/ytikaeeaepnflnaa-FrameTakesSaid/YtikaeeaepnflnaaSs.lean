/- Plain functions in place of the program's, and that their calls come to what they say. -/
import Derived.Test.YtikaeeaepnflnaaFrame
import Derived.Test.YtikaeeaepnflnaaAbs60
namespace Go.Proofs.Ytikaeeaepnflnaa
open Go.RowKit Abs

noncomputable def frame_Scan_R0A (_ : BothF) (_ : Nat) (t2 : AV) (t3 : AV) (t8 : Int) (t9 : Bytes) (h : AHeap) : R :=
  some (.ret (.tup [t2, t3, .int .i64 t8, strA t9]), h)
set_option maxHeartbeats 4000000 in
set_option maxRecDepth 20000 in
theorem frame_Scan_R0A_ok {both : BothF} (_ : BothAll Try.prog both) {n : Nat} {t2 : AV} {t3 : AV} {t8 : Int} {t9 : Bytes} {h : AHeap} {rR : ARes} {hR : AHeap} (hF : frame_Scan_R0A both n t2 t3 t8 t9 h = some (rR, hR)) {w0 : Base} {m0 : Map} {rd : Option Nat} {nR : Nat} {ds : DefT} : WR Try.prog w0 m0 (Func.ntmps Try.f11) rd nR (Code.r1 (Code.p1 (Code.p2 (Code.p1 (Code.p2 (codeOf Try.f11)))))) (Post w0 m0 (Func.ntmps Try.f11) .normal ⟨Fr.tree (tupFr [2, 3, 4, 5] rR), ds⟩ hR) [(2, t2), (3, t3), (8, .int .i64 t8), (9, strA t9)] ds h := by
  unfold frame_Scan_R0A at hF
  refine WR.seqK (by kernel_rfl) (fun K26 n26 e26 q26 p26 => ?_)
  refine WR.region (by kernel_rfl) ?_
  refine WLR.val (d := (some 4)) (v := .int .i64 t8) (h' := h) (by kernel_rfl) (by kernel_rfl) (by kernel_rfl) ?_
  refine WLR.nil (by kernel_rfl) ?_
  refine Go.weaken (l' := [(2, t2), (3, t3), (4, .int .i64 t8), (9, strA t9)]) (Fr.sub_cons (by kernel_rfl) (Fr.sub_cons (by kernel_rfl) (Fr.sub_cons (by kernel_rfl) (Fr.sub_cons (by kernel_rfl) (Fr.sub_nil _))))) ?_
  refine n26 ?_
  refine WR.region (by kernel_rfl) ?_
  refine WLR.val (d := (some 5)) (v := strA t9) (h' := h) (by kernel_rfl) (by kernel_rfl) (by kernel_rfl) ?_
  refine WLR.nil (by kernel_rfl) ?_
  refine Go.weaken (l' := [(2, t2), (3, t3), (4, .int .i64 t8), (5, strA t9)]) (Fr.sub_cons (by kernel_rfl) (Fr.sub_cons (by kernel_rfl) (Fr.sub_cons (by kernel_rfl) (Fr.sub_cons (by kernel_rfl) (Fr.sub_nil _))))) ?_
  obtain ⟨hF, hF2⟩ := ret_inj hF; subst hF; subst hF2
  exact Go.postN (l' := [(2, t2), (3, t3), (4, .int .i64 t8), (5, strA t9)]) (Fr.sub_cons (by kernel_rfl) (Fr.sub_cons (by kernel_rfl) (Fr.sub_cons (by kernel_rfl) (Fr.sub_cons (by kernel_rfl) (Fr.sub_nil _)))))
noncomputable def frame_Scan_R0A_fn (both : BothF) (n : Nat) : FnT := fun args h => match args with
  | [x2, x3, x8, x9] => obind (avInt .i64 x8) fun t8 => obind (avStr x9) fun t9 => frame_Scan_R0A both n x2 x3 t8 t9 h
  | _ => none
set_option maxRecDepth 100000 in
theorem frame_Scan_R0A_fn_eq (both : BothF) (n : Nat) (t2 : AV) (t3 : AV) (t8 : Int) (t9 : Bytes) (h : AHeap) : frame_Scan_R0A_fn both n [t2, t3, .int .i64 t8, strA t9] h = frame_Scan_R0A both n t2 t3 t8 t9 h :=
  (Eq.trans (obind_eq (fun t8 => obind (avStr (strA t9)) fun t9 => frame_Scan_R0A both n t2 t3 t8 t9 h) (avInt_int .i64 t8)) (Eq.trans (obind_eq (fun t9 => frame_Scan_R0A both n t2 t3 t8 t9 h) (avStr_str t9)) rfl))
noncomputable def frame_Scan_R0B (_ : BothF) (_ : Nat) (t2 : AV) (t3 : AV) (t4 : Int) (t5 : Bytes) (h : AHeap) : R :=
  obind (ldCell h t2) fun v10 =>
  outK (bldSl Try.prog h 28 1 [(0, strA t5)]) fun v12 h_30 =>
  outK (opAppend Try.prog h_30 28 28 v10 v12) fun v13 h_32 =>
  obind (stRow h_32 1 (AV.cells v13) t2) fun h_34 =>
  lett (IntKind.i64.wrap (t4 + 8)) fun (t15 : Int) =>
  lett (IntKind.i64.wrap (t15 + (lenS t5))) fun (t18 : Int) =>
  lett (IntKind.i64.wrap (t18 + 4)) fun (t19 : Int) =>
  obind (stRow h_34 1 [.int .i64 t19] t3) fun h_39 =>
  some (.ret (.int .i64 0), h_39)
set_option maxHeartbeats 4000000 in
set_option maxRecDepth 20000 in
theorem frame_Scan_R0B_ok {both : BothF} (_ : BothAll Try.prog both) {n : Nat} {t2 : AV} {t3 : AV} {t4 : Int} {t5 : Bytes} {h : AHeap} {rR : ARes} {hR : AHeap} (hF : frame_Scan_R0B both n t2 t3 t4 t5 h = some (rR, hR)) {w0 : Base} {m0 : Map} {rd : Option Nat} {nR : Nat} {ds : DefT} : WR Try.prog w0 m0 (Func.ntmps Try.f11) rd nR (Code.r2 (Code.p1 (Code.p2 (Code.p1 (Code.p2 (codeOf Try.f11)))))) (Post w0 m0 (Func.ntmps Try.f11) (decE rR) ⟨Fr.tree [], ds⟩ hR) [(2, t2), (3, t3), (4, .int .i64 t4), (5, strA t5)] ds h := by
  unfold frame_Scan_R0B at hF
  refine WR.blockK (by kernel_rfl) (fun K27 n27 s27 o27 q27 p27 => ?_)
  refine WR.seqK (by kernel_rfl) (fun K28 n28 e28 q28 p28 => ?_)
  refine WR.region (by kernel_rfl) ?_
  replace hF := obind_some hF; obtain ⟨v10, e29, hF⟩ := hF
  refine WLR.val (d := (some 10)) (v := v10) (h' := h) (by kernel_rfl) (by kernel_rfl) (Eq.trans (by kernel_rfl) (load_cell (P := Try.prog) (h := h) (t := 28) (by kernel_rfl) e29)) ?_
  refine WLR.val (d := (some 11)) (v := strA t5) (h' := h) (by kernel_rfl) (by kernel_rfl) (by kernel_rfl) ?_
  replace hF := outK_some hF; obtain ⟨v12, h_30, e31, hF⟩ := hF
  refine WLR.val (d := (some 12)) (v := v12) (h' := h_30) (by kernel_rfl) (by kernel_rfl) (Eq.trans (by kernel_rfl) e31) ?_
  replace hF := outK_some hF; obtain ⟨v13, h_32, e33, hF⟩ := hF
  refine WLR.val (d := (some 13)) (v := v13) (h' := h_32) (by kernel_rfl) (by kernel_rfl) (Eq.trans (by kernel_rfl) e33) ?_
  replace hF := obind_some hF; obtain ⟨h_34, e35, hF⟩ := hF
  refine WLR.eff (h' := h_34) (by kernel_rfl) (by kernel_rfl) (Eq.trans (by kernel_rfl) (store_row (P := Try.prog) (h := h_32) (t := 28) (v := v13) (by kernel_rfl) (by kernel_rfl) e35)) ?_
  refine WLR.nil (by kernel_rfl) ?_
  refine Go.weaken (l' := [(3, t3), (4, .int .i64 t4), (5, strA t5)]) (Fr.sub_cons (by kernel_rfl) (Fr.sub_cons (by kernel_rfl) (Fr.sub_cons (by kernel_rfl) (Fr.sub_nil _)))) ?_
  refine n28 ?_
  refine WR.region (by kernel_rfl) ?_
  refine WLR.val (d := (some 14)) (v := .int .i64 t4) (h' := h_34) (by kernel_rfl) (by kernel_rfl) (by kernel_rfl) ?_
  replace hF := lett_some hF; obtain ⟨t15, e36, hF⟩ := hF
  refine WLR.val (d := (some 15)) (v := .int .i64 t15) (h' := h_34) (by kernel_rfl) (by kernel_rfl) (val_of (AV.int .i64) e36 (by kernel_rfl)) ?_
  refine WLR.val (d := (some 16)) (v := strA t5) (h' := h_34) (by kernel_rfl) (by kernel_rfl) (by kernel_rfl) ?_
  refine WLR.val (d := (some 17)) (v := .int .i64 (lenS t5)) (h' := h_34) (by kernel_rfl) (by kernel_rfl) (by kernel_rfl) ?_
  replace hF := lett_some hF; obtain ⟨t18, e37, hF⟩ := hF
  refine WLR.val (d := (some 18)) (v := .int .i64 t18) (h' := h_34) (by kernel_rfl) (by kernel_rfl) (val_of (AV.int .i64) e37 (by kernel_rfl)) ?_
  replace hF := lett_some hF; obtain ⟨t19, e38, hF⟩ := hF
  refine WLR.val (d := (some 19)) (v := .int .i64 t19) (h' := h_34) (by kernel_rfl) (by kernel_rfl) (val_of (AV.int .i64) e38 (by kernel_rfl)) ?_
  replace hF := obind_some hF; obtain ⟨h_39, e40, hF⟩ := hF
  refine WLR.eff (h' := h_39) (by kernel_rfl) (by kernel_rfl) (Eq.trans (by kernel_rfl) (store_row (P := Try.prog) (h := h_34) (t := 3) (v := (.int .i64 t19)) (by kernel_rfl) (by kernel_rfl) e40)) ?_
  refine WLR.nil (by kernel_rfl) ?_
  refine Go.weaken (l' := []) (Fr.sub_nil _) ?_
  refine n27 ?_
  obtain ⟨hF, hF2⟩ := ret_inj hF; subst hF; subst hF2
  exact Go.postN (l' := []) (Fr.sub_nil _)
noncomputable def frame_Scan_R0B_fn (both : BothF) (n : Nat) : FnT := fun args h => match args with
  | [x2, x3, x4, x5] => obind (avInt .i64 x4) fun t4 => obind (avStr x5) fun t5 => frame_Scan_R0B both n x2 x3 t4 t5 h
  | _ => none
set_option maxRecDepth 100000 in
theorem frame_Scan_R0B_fn_eq (both : BothF) (n : Nat) (t2 : AV) (t3 : AV) (t4 : Int) (t5 : Bytes) (h : AHeap) : frame_Scan_R0B_fn both n [t2, t3, .int .i64 t4, strA t5] h = frame_Scan_R0B both n t2 t3 t4 t5 h :=
  (Eq.trans (obind_eq (fun t4 => obind (avStr (strA t5)) fun t5 => frame_Scan_R0B both n t2 t3 t4 t5 h) (avInt_int .i64 t4)) (Eq.trans (obind_eq (fun t5 => frame_Scan_R0B both n t2 t3 t4 t5 h) (avStr_str t5)) rfl))
noncomputable def frame_Scan_R0 (n : Nat) : LSite := ⟨Func.ntmps Try.f11, (Code.p1 (Code.p2 (Code.p1 (Code.p2 (codeOf Try.f11))))), [2, 3, 8, 9], fun both => frame_Scan_R0A_fn both n, [2, 3, 4, 5], fun both => frame_Scan_R0B_fn both n⟩
set_option maxRecDepth 20000 in
theorem frame_Scan_R0_ok (n : Nat) : LSite.ok Try.prog (frame_Scan_R0 n) where
  A := fun hc vs h r h2 e0 w0 m0 rd n2 ds => by
      have e : frame_Scan_R0A_fn _ n vs h = some (r, h2) := e0
      clear e0
      unfold frame_Scan_R0A_fn at e
      split at e
      · replace e := obind_some e; obtain ⟨t8, c8, e⟩ := e; have c8 := avInt_some c8; subst c8
        replace e := obind_some e; obtain ⟨t9, c9, e⟩ := e; have c9 := avStr_some c9; subst c9
        exact frame_Scan_R0A_ok hc (n := n) e
      · cases e
  B := fun hc vs h r h2 e0 w0 m0 rd n2 ds => by
      have e : frame_Scan_R0B_fn _ n vs h = some (r, h2) := e0
      clear e0
      unfold frame_Scan_R0B_fn at e
      split at e
      · replace e := obind_some e; obtain ⟨t4, c4, e⟩ := e; have c4 := avInt_some c4; subst c4
        replace e := obind_some e; obtain ⟨t5, c5, e⟩ := e; have c5 := avStr_some c5; subst c5
        exact frame_Scan_R0B_ok hc (n := n) e
      · cases e
noncomputable def frame_Scan (both : BothF) (_ : Nat) (t0 : Bytes) (h : AHeap) : R :=
  lett (newH h 28 [.nsl]) fun h_2 =>
  lett (newH h_2 3 [.int .i64 0]) fun h_4 =>
  callN (both false 16 [strA t0] h_4) fun r7 h_8 =>
  rngK (rngX Try.prog both (Func.ntmps Try.f11) r7 (Code.p1 (Code.p2 (Code.p1 (Code.p2 (codeOf Try.f11))))) (Fr.tree [(2, (newP h)), (3, (newP h_2)), (7, r7)]) [] h_8) (fun h_11 =>
    obind (ldCell h_11 (newP h)) fun v20 =>
    obind (ldCell h_11 (newP h_2)) fun v21 =>
    obind (avInt .i64 v21) fun t21 =>
    obind (stRow h_11 1 (AV.cells v20) (newP h)) fun h_18 =>
    chk (reLoad Try.prog h_18 3 (newP h_2) (.int .i64 t21) && (true && true)) <|
    obind (stRow h_18 1 [.int .i64 t21] (newP h_2)) fun h_21 =>
    marksK (dmark (AHeap.next h_8) :: []) h_21 fun h_23 =>
    obind (ldCell h_23 (newP h)) fun w2 =>
    obind (ldCell h_23 (newP h_2)) fun w3 =>
    some (.ret (.tup [w2, w3]), h_23)) (fun _ =>
    none) (fun _ _ =>
    none)
set_option maxHeartbeats 4000000 in
set_option maxRecDepth 20000 in
theorem frame_Scan_ok {both : BothF} (hc : BothAll Try.prog both) {n : Nat} {t0 : Bytes} {h : AHeap} {rR : ARes} {hR : AHeap} (hF : frame_Scan both n t0 h = some (rR, hR)) : Says Try.prog 11 [strA t0] h rR hR := by
  unfold frame_Scan at hF
  refine says_ofM (fn := Try.f11) Try.func11 (c := codeOf Try.f11) (by kernel_rfl) (by kernel_rfl) (fun w0 m0 => ?_)
  refine WR.weaken (l' := [(0, strA t0)]) (Fr.sub_cons (by kernel_rfl) (Fr.sub_nil _)) ?_
  refine WR.seqK (by kernel_rfl) (fun K1 n1 e1 q1 p1 => ?_)
  refine WR.region (by kernel_rfl) ?_
  replace hF := lett_some hF; obtain ⟨h_2, e3, hF⟩ := hF
  refine WLR.val (d := (some 2)) (v := (newP h)) (h' := h_2) (by kernel_rfl) (by kernel_rfl) (val_ofH e3 (by kernel_rfl)) ?_
  replace hF := lett_some hF; obtain ⟨h_4, e5, hF⟩ := hF
  refine WLR.val (d := (some 3)) (v := (newP h_2)) (h' := h_4) (by kernel_rfl) (by kernel_rfl) (val_ofH e5 (by kernel_rfl)) ?_
  refine WLR.nil (by kernel_rfl) ?_
  refine Go.weaken (l' := [(0, strA t0), (2, (newP h)), (3, (newP h_2))]) (Fr.sub_cons (by kernel_rfl) (Fr.sub_cons (by kernel_rfl) (Fr.sub_cons (by kernel_rfl) (Fr.sub_nil _)))) ?_
  refine n1 ?_
  refine WR.seqK (by kernel_rfl) (fun K6 n6 e6 q6 p6 => ?_)
  refine WR.seqK (by kernel_rfl) (fun K7 n7 e7 q7 p7 => ?_)
  refine WR.region (by kernel_rfl) ?_
  refine WLR.val (d := (some 6)) (v := strA t0) (h' := h_4) (by kernel_rfl) (by kernel_rfl) (by kernel_rfl) ?_
  replace hF := callN_some hF; obtain ⟨r7, h_8, e9, hF⟩ := hF
  refine WLR.call (hc.says.ok w0) (d := (some 7)) (by kernel_rfl) (by kernel_rfl) (by kernel_rfl) e9 ?_
  refine WLR.nil (by kernel_rfl) ?_
  refine Go.weaken (l' := [(2, (newP h)), (3, (newP h_2)), (7, r7)]) (Fr.sub_cons (by kernel_rfl) (Fr.sub_cons (by kernel_rfl) (Fr.sub_cons (by kernel_rfl) (Fr.sub_nil _)))) ?_
  refine n7 ?_
  refine WR.blockK (by kernel_rfl) (fun K10 n10 s10 o10 q10 p10 => ?_)
  refine WR.rng hc hF (fun h_11 hF => ?_) (fun h_12 hF => ?_) (fun id h_13 hF => ?_)
  · skip
    refine n10 ?_
    refine n6 ?_
    refine WR.seqK (by kernel_rfl) (fun K14 n14 e14 q14 p14 => ?_)
    refine WR.draw (by kernel_rfl) (hc.says.ok w0) (plan := [0, 1, 2, 3]) (by kernel_rfl) (by kernel_rfl) (by kernel_rfl) ?_
    replace hF := obind_some hF; obtain ⟨v20, e15, hF⟩ := hF
    refine WD.val (d := (some 20)) (v := v20) (h' := h_11) (by kernel_rfl) (by kernel_rfl) (Eq.trans (by kernel_rfl) (load_cell (P := Try.prog) (h := h_11) (t := 28) (by kernel_rfl) e15)) (k := 1) (by kernel_rfl) (fun e => absurd e (by decide)) (by decide) ?_
    replace hF := obind_some hF; obtain ⟨v21, e16, hF⟩ := hF
    replace hF := obind_some hF; obtain ⟨t21, c17, hF⟩ := hF
    have c17 := avInt_some c17
    subst c17
    refine WD.val (d := (some 21)) (v := .int .i64 t21) (h' := h_11) (by kernel_rfl) (by kernel_rfl) (Eq.trans (by kernel_rfl) (load_cell (P := Try.prog) (h := h_11) (t := 3) (by kernel_rfl) e16)) (k := 1) (by kernel_rfl) (fun e => absurd e (by decide)) (by decide) ?_
    replace hF := obind_some hF; obtain ⟨h_18, e19, hF⟩ := hF
    replace hF := chk_some hF; obtain ⟨k20, hF⟩ := hF
    refine WD.eff (h' := h_18) (by kernel_rfl) (by kernel_rfl) (Eq.trans (by kernel_rfl) (store_row (P := Try.prog) (h := h_11) (t := 28) (v := v20) (by kernel_rfl) (by kernel_rfl) e19)) (k := 2) (by kernel_rfl) (fun _ => (Eq.trans (by kernel_rfl) k20)) (by decide) ?_
    replace hF := obind_some hF; obtain ⟨h_21, e22, hF⟩ := hF
    refine WD.eff (h' := h_21) (by kernel_rfl) (by kernel_rfl) (Eq.trans (by kernel_rfl) (store_row (P := Try.prog) (h := h_18) (t := 3) (v := (.int .i64 t21)) (by kernel_rfl) (by kernel_rfl) e22)) (k := 2) (by kernel_rfl) (fun _ => (by kernel_rfl)) (by decide) ?_
    refine WD.nil ?_
    refine Go.weaken (l' := [(2, (newP h)), (3, (newP h_2))]) (Fr.sub_cons (by kernel_rfl) (Fr.sub_cons (by kernel_rfl) (Fr.sub_nil _))) ?_
    refine n14 ?_
    refine WR.ret (by kernel_rfl) ?_
    refine Go.leaveK hF (fun h_23 hF => ?_)
    replace hF := obind_some hF; obtain ⟨w2, e24, hF⟩ := hF
    replace hF := obind_some hF; obtain ⟨w3, e25, hF⟩ := hF
    obtain ⟨hF, hF2⟩ := ret_inj hF; subst hF; subst hF2
    exact ret_of (rs := [.cell 2 28, .cell 3 3]) (vs := [w2, w3]) (by kernel_rfl) (res_cell (by kernel_rfl) (load_cell (P := Try.prog) (h := h_23) (t := 28) (by kernel_rfl) e24) (res_cell (by kernel_rfl) (load_cell (P := Try.prog) (h := h_23) (t := 3) (by kernel_rfl) e25) res_nil)) (by kernel_rfl)
  · skip
    cases hF
  · skip
    cases hF
noncomputable def frame_Scan_fn (both : BothF) (n : Nat) : FnT := fun args h => match args with
  | [x0] => obind (avStr x0) fun t0 => frame_Scan both n t0 h
  | _ => none
set_option maxRecDepth 100000 in
theorem frame_Scan_fn_eq (both : BothF) (n : Nat) (t0 : Bytes) (h : AHeap) : frame_Scan_fn both n [strA t0] h = frame_Scan both n t0 h :=
  (Eq.trans (obind_eq (fun t0 => frame_Scan both n t0 h) (avStr_str t0)) rfl)
theorem frame_Scan_holds {both : BothF} (hc : BothAll Try.prog both) (n : Nat) : Holds Try.prog 11 (frame_Scan_fn both n) := by
  intro args h r h2 e
  unfold frame_Scan_fn at e
  split at e
  · replace e := obind_some e; obtain ⟨t0, c0, e⟩ := e; have c0 := avStr_some c0; subst c0
    exact frame_Scan_ok hc (n := n) e
  · cases e

end Go.Proofs.Ytikaeeaepnflnaa
