/- What patternBack_proved stands on, part 6 of 7. -/
import Derived.Test.YteibdplpbcobbaaPb5
namespace Go.Proofs.Yteibdplpbcobbaa
open Go.RowKit Abs
set_option maxHeartbeats 4000000
set_option maxRecDepth 20000
noncomputable def pattern_Parse (call : CallF) (_ : Nat) (t0 : Bytes) (h : AHeap) : R :=
 lett (newH h 35 [.int .i64 0, .str 0 0]) fun h_2 =>
 lett (newH h_2 27 [.int .i64 0, .int .i64 0]) fun h_4 =>
 outK (opBox h_4 70 (some (.agg ([strA t0, .int .i64 0] : List AV)))) fun v8 h_7 =>
 lett (newH h_7 68 [.nilp]) fun h_9 =>
 obind (stRow h_9 1 (AV.cells v8) (newP h_7)) fun h_11 =>
 lett (newH h_11 3 [.int .i64 0]) fun h_14 =>
 obind (stRow h_14 1 [.int .i64 0] (newP h_11)) fun h_16 =>
 callN (call 35 [(AV.fn 44 [] [(newP h_7), (newP h), (newP h_11)])] h_16) fun r10 h_19 =>
 obind (avAgg r10) fun t10 =>
 obind (stRow h_19 2 t10 (newP h_2)) fun h_22 =>
 obind (ldCell h_22 (AV.ptr (AHeap.next h_2) 0)) fun v12 =>
 obind (avInt .i64 v12) fun t12 =>
 lett ((t12 : Int) != 0) fun (t13 : Bool) =>
 ifB t13
 (
  obind (ldRow h_22 2 (newP h_2)) fun t15 =>
  obind (stRow h_22 2 ([.int .i64 0, .str 0 0] : List AV) (newP h)) fun h_31 =>
  chk (reLoad Pg h_31 27 (newP h_2) (.agg t15) && true) <|
  obind (stRow h_31 2 t15 (newP h_2)) fun h_34 =>
  obind (ldRow h_34 2 (newP h)) fun w2 =>
  obind (ldRow h_34 2 (newP h_2)) fun w3 =>
  some (.ret (.tup [.agg w2, .agg w3]), h_34))
 (
  obind (ldRow h_22 2 (newP h)) fun t17 =>
  callN (call 21 [.agg t17] h_22) fun r18 h_41 =>
  obind (extT 0 r18) fun v19 =>
  obind (avAgg v19) fun _ =>
  obind (extT 1 r18) fun v20 =>
  obind (avAgg v20) fun t20 =>
  obind (stRow h_41 2 t20 (newP h_2)) fun h_47 =>
  obind (ldCell h_47 (AV.ptr (AHeap.next h_2) 0)) fun v22 =>
  obind (avInt .i64 v22) fun t22 =>
  lett ((t22 : Int) != 0) fun (t23 : Bool) =>
  ifB t23
  (
   obind (ldCell h_47 (newP h_11)) fun v24 =>
   obind (avInt .i64 v24) fun t24 =>
   obind (ldCell h_47 (AV.ptr (AHeap.next h) 1)) fun v26 =>
   obind (avStr v26) fun t26 =>
   obind (ldCell h_47 (AV.ptr (AHeap.next h_2) 1)) fun v28 =>
   obind (avInt .i64 v28) fun t28 =>
   obind (sliceS t26 0 t28) fun t29 =>
   callN (call 15 [strA t29] h_47) fun r30 h_61 =>
   obind (avStr r30) fun t30 =>
   chk (true && (true && (reLoad Pg h_61 3 (newP h_11) (.int .i64 t24) && true))) <|
   lett (IntKind.i64.wrap (t24 + (lenS t30))) fun (t32 : Int) =>
   lett (IntKind.i64.wrap (t32 - 1)) fun (t33 : Int) =>
   obind (stRow h_61 1 [.int .i64 t33] (AV.ptr (AHeap.next h_2) 1)) fun h_67 =>
   obind (ldRow h_67 2 (newP h_2)) fun t36 =>
   obind (stRow h_67 2 ([.int .i64 0, .str 0 0] : List AV) (newP h)) fun h_71 =>
   chk (reLoad Pg h_71 27 (newP h_2) (.agg t36) && true) <|
   obind (stRow h_71 2 t36 (newP h_2)) fun h_74 =>
   obind (ldRow h_74 2 (newP h)) fun w2_77 =>
   obind (ldRow h_74 2 (newP h_2)) fun w3_79 =>
   some (.ret (.tup [.agg w2_77, .agg w3_79]), h_74))
  (
   obind (ldRow h_47 2 (newP h)) fun t37 =>
   obind (ldRow h_47 2 (newP h_2)) fun t38 =>
   obind (stRow h_47 2 t37 (newP h)) fun h_83 =>
   chk (reLoad Pg h_83 27 (newP h_2) (.agg t38) && (true && true)) <|
   obind (stRow h_83 2 t38 (newP h_2)) fun h_86 =>
   obind (ldRow h_86 2 (newP h)) fun w2_89 =>
   obind (ldRow h_86 2 (newP h_2)) fun w3_91 =>
   some (.ret (.tup [.agg w2_89, .agg w3_91]), h_86)))
theorem pattern_Parse_ok {call : CallF} (hc : SaysAll Pg call) {n : Nat} {t0 : Bytes} {h : AHeap} {rR : ARes} {hR : AHeap} (z : pattern_Parse call n t0 h = some (rR, hR)) : Says Pg 24 [strA t0] h rR hR := by
 unfold pattern_Parse at z
 refine sO Try.func24 fun w0 m0 => ?_
 refine wW [(0, strA t0)] ?_
 refine oG fun n1 => W.r ?_
 refine oN 2 z fun h_2 z => ?_
 refine oN 3 z fun h_4 z => ?_
 refine oV [(0, strA t0), (2, newP h), (3, newP h_2)] (n1 ?_)
 refine oG fun n6 => W.r ?_
 refine oA 6 (strA t0) ?_
 refine oA 7 (.agg ([strA t0, .int .i64 0] : List AV)) ?_
 refine oK 8 z fun v8 h_7 z => ?_
 refine oN 4 z fun h_9 z => ?_
 refine oW 68 v8 z fun h_11 z => ?_
 refine oV [(2, newP h), (3, newP h_2), (4, newP h_7)] (n6 ?_)
 refine oG fun n13 => W.r ?_
 refine oN 5 z fun h_14 z => ?_
 refine oW 3 (.int .i64 0) z fun h_16 z => ?_
 refine oV [(2, newP h), (3, newP h_2), (4, newP h_7), (5, newP h_11)] (n13 ?_)
 refine oG fun n18 => W.r ?_
 refine oA 9 (AV.fn 44 [] [(newP h_7), (newP h), (newP h_11)]) ?_
 refine oCa hc 10 z fun t10 h_19 z => ?_
 refine oW 27 (.agg t10) z fun h_22 z => ?_
 refine oV [(2, newP h), (3, newP h_2), (5, newP h_11)] (n18 ?_)
 refine oH fun n24 q24 => ?_
 refine oG fun n25 => W.r ?_
 refine oA 11 (AV.ptr (AHeap.next h_2) 0) ?_
 refine oLi 12 25 z fun t12 z => ?_
 refine oB 13 z fun t13 z => ?_
 refine oV [(2, newP h), (3, newP h_2), (5, newP h_11), (13, .bool t13)] (n25 ?_)
 cases t13 with
 | true =>
  refine oT z fun z => ?_
  refine oG fun n29 => ?_
  refine W.draw (by kernel_rfl) (hc.ok w0) (plan := [0, 1, 2, 3]) (by kernel_rfl) (by kernel_rfl) (by kernel_rfl) ?_
  refine WD.a 0 (some 14) (.agg ([.int .i64 0, .str 0 0] : List AV)) h_22 ?_
  obtain ⟨t15, e30, z⟩ := oS z
  refine WD.b 1 (some 15) (.agg t15) h_22 (load_row (P := Pg) (h := h_22) (t := 27) (by kernel_rfl) (by kernel_rfl) e30) ?_
  obtain ⟨h_31, e32, z⟩ := oS z
  obtain ⟨k33, z⟩ := chk_some z
  refine WD.eff (h' := h_31) (by kernel_rfl) (by kernel_rfl) (Eq.trans (by kernel_rfl) (store_row (P := Pg) (h := h_22) (t := 35) (v := (.agg ([.int .i64 0, .str 0 0] : List AV))) (by kernel_rfl) (by kernel_rfl) e32)) (k := 2) (by kernel_rfl) (fun _ => (Eq.trans (by kernel_rfl) k33)) (by decide) ?_
  obtain ⟨h_34, e35, z⟩ := oS z
  refine WD.eff (h' := h_34) (by kernel_rfl) (by kernel_rfl) (Eq.trans (by kernel_rfl) (store_row (P := Pg) (h := h_31) (t := 27) (v := (.agg t15)) (by kernel_rfl) (by kernel_rfl) e35)) (k := 2) (by kernel_rfl) (fun _ => (by kernel_rfl)) (by decide) ?_
  refine WD.nil ?_
  refine gW [(2, newP h), (3, newP h_2)] (n29 (oY (q24 ?_)))
  obtain ⟨w2, e36, z⟩ := oS z
  obtain ⟨w3, e37, z⟩ := oS z
  exact lZ z [.cell 2 35, .cell 3 27] [.agg w2, .agg w3] (rY e36 (rY e37 res_nil))
 | false =>
  refine oU z fun z => ?_
  refine oZ (n24 ?_)
  refine oH fun n38 q38 => ?_
  refine oG fun n39 => W.r ?_
  refine oR 17 35 z fun t17 z => ?_
  refine oC hc (some 18) z fun r18 h_41 z => ?_
  refine oA 16 r18 ?_
  refine oEa 19 z fun t19 z => ?_
  refine oEa 20 z fun t20 z => ?_
  refine oW 27 (.agg t20) z fun h_47 z => ?_
  refine oV [(2, newP h), (3, newP h_2), (5, newP h_11)] (n39 ?_)
  refine oG fun n49 => W.r ?_
  refine oA 21 (AV.ptr (AHeap.next h_2) 0) ?_
  refine oLi 22 25 z fun t22 z => ?_
  refine oB 23 z fun t23 z => ?_
  refine oV [(2, newP h), (3, newP h_2), (5, newP h_11), (23, .bool t23)] (n49 ?_)
  cases t23 with
  | true =>
   refine oT z fun z => ?_
   refine oG fun n53 => ?_
   refine W.draw (by kernel_rfl) (hc.ok w0) (plan := [0, 1, 2, 3, 4, 5, 6, 7, 8, 9, 10, 11]) (by kernel_rfl) (by kernel_rfl) (by kernel_rfl) ?_
   replace z := oS z; obtain ⟨v24, e54, z⟩ := z
   replace z := oS z; obtain ⟨t24, c55, z⟩ := z
   have c55 := avInt_some c55
   subst c55
   refine WD.b 1 (some 24) (.int .i64 t24) h_47 (load_cell (P := Pg) (h := h_47) (t := 3) (by kernel_rfl) e54) ?_
   refine WD.a 0 (some 25) (AV.ptr (AHeap.next h) 1) h_47 ?_
   replace z := oS z; obtain ⟨v26, e56, z⟩ := z
   replace z := oS z; obtain ⟨t26, c57, z⟩ := z
   have c57 := avStr_some c57
   subst c57
   refine WD.b 1 (some 26) (strA t26) h_47 (load_cell (P := Pg) (h := h_47) (t := 9) (by kernel_rfl) e56) ?_
   refine WD.a 0 (some 27) (AV.ptr (AHeap.next h_2) 1) h_47 ?_
   replace z := oS z; obtain ⟨v28, e58, z⟩ := z
   replace z := oS z; obtain ⟨t28, c59, z⟩ := z
   have c59 := avInt_some c59
   subst c59
   refine WD.b 1 (some 28) (.int .i64 t28) h_47 (load_cell (P := Pg) (h := h_47) (t := 3) (by kernel_rfl) e58) ?_
   obtain ⟨t29, e60, z⟩ := oS z
   refine WD.b 0 (some 29) (strA t29) h_47 (slice_str (P := Pg) (h := h_47) (t := 9) (A := none) (B := (some (.int .i64 t28))) (by kernel_rfl) (.inr ⟨rfl, rfl⟩) (.inl ⟨_, rfl⟩) e60) ?_
   replace z := callN_some z; obtain ⟨r30, h_61, e62, z⟩ := z
   replace z := oS z; obtain ⟨t30, c63, z⟩ := z
   have c63 := avStr_some c63
   subst c63
   obtain ⟨k64, z⟩ := chk_some z
   refine WD.call (d := (some 30)) (by kernel_rfl) (by kernel_rfl) (by kernel_rfl) e62 (k := 2) (by kernel_rfl) (fun _ => (Eq.trans (by kernel_rfl) k64)) (by decide) ?_
   refine WD.a 0 (some 31) (.int .i64 (lenS t30)) h_61 ?_
   obtain ⟨t32, e65, z⟩ := lS z
   refine WD.val (d := (some 32)) (v := .int .i64 t32) (h' := h_61) (by kernel_rfl) (by kernel_rfl) (val_of (AV.int .i64) e65 (by kernel_rfl)) (k := 0) (by kernel_rfl) (fun e => absurd e (by decide)) (by decide) ?_
   obtain ⟨t33, e66, z⟩ := lS z
   refine WD.val (d := (some 33)) (v := .int .i64 t33) (h' := h_61) (by kernel_rfl) (by kernel_rfl) (val_of (AV.int .i64) e66 (by kernel_rfl)) (k := 0) (by kernel_rfl) (fun e => absurd e (by decide)) (by decide) ?_
   refine WD.a 0 (some 34) (AV.ptr (AHeap.next h_2) 1) h_61 ?_
   obtain ⟨h_67, e68, z⟩ := oS z
   refine WD.eff (h' := h_67) (by kernel_rfl) (by kernel_rfl) (Eq.trans (by kernel_rfl) (store_row (P := Pg) (h := h_61) (t := 3) (v := (.int .i64 t33)) (by kernel_rfl) (by kernel_rfl) e68)) (k := 2) (by kernel_rfl) (fun _ => (by kernel_rfl)) (by decide) ?_
   refine WD.nil ?_
   refine gW [(2, newP h), (3, newP h_2)] (n53 ?_)
   refine oG fun n69 => ?_
   refine W.draw (by kernel_rfl) (hc.ok w0) (plan := [0, 1, 2, 3]) (by kernel_rfl) (by kernel_rfl) (by kernel_rfl) ?_
   refine WD.a 0 (some 35) (.agg ([.int .i64 0, .str 0 0] : List AV)) h_67 ?_
   obtain ⟨t36, e70, z⟩ := oS z
   refine WD.b 1 (some 36) (.agg t36) h_67 (load_row (P := Pg) (h := h_67) (t := 27) (by kernel_rfl) (by kernel_rfl) e70) ?_
   obtain ⟨h_71, e72, z⟩ := oS z
   obtain ⟨k73, z⟩ := chk_some z
   refine WD.eff (h' := h_71) (by kernel_rfl) (by kernel_rfl) (Eq.trans (by kernel_rfl) (store_row (P := Pg) (h := h_67) (t := 35) (v := (.agg ([.int .i64 0, .str 0 0] : List AV))) (by kernel_rfl) (by kernel_rfl) e72)) (k := 2) (by kernel_rfl) (fun _ => (Eq.trans (by kernel_rfl) k73)) (by decide) ?_
   obtain ⟨h_74, e75, z⟩ := oS z
   refine WD.eff (h' := h_74) (by kernel_rfl) (by kernel_rfl) (Eq.trans (by kernel_rfl) (store_row (P := Pg) (h := h_71) (t := 27) (v := (.agg t36)) (by kernel_rfl) (by kernel_rfl) e75)) (k := 2) (by kernel_rfl) (fun _ => (by kernel_rfl)) (by decide) ?_
   refine WD.nil ?_
   refine gW [(2, newP h), (3, newP h_2)] (n69 (oY (q38 ?_)))
   obtain ⟨w2_77, e76, z⟩ := oS z
   obtain ⟨w3_79, e78, z⟩ := oS z
   exact lZ z [.cell 2 35, .cell 3 27] [.agg w2_77, .agg w3_79] (rY e76 (rY e78 res_nil))
  | false =>
   refine oU z fun z => ?_
   refine oZ (n38 ?_)
   refine oG fun n80 => ?_
   refine W.draw (by kernel_rfl) (hc.ok w0) (plan := [0, 1, 2, 3]) (by kernel_rfl) (by kernel_rfl) (by kernel_rfl) ?_
   obtain ⟨t37, e81, z⟩ := oS z
   refine WD.b 1 (some 37) (.agg t37) h_47 (load_row (P := Pg) (h := h_47) (t := 35) (by kernel_rfl) (by kernel_rfl) e81) ?_
   obtain ⟨t38, e82, z⟩ := oS z
   refine WD.b 1 (some 38) (.agg t38) h_47 (load_row (P := Pg) (h := h_47) (t := 27) (by kernel_rfl) (by kernel_rfl) e82) ?_
   obtain ⟨h_83, e84, z⟩ := oS z
   obtain ⟨k85, z⟩ := chk_some z
   refine WD.eff (h' := h_83) (by kernel_rfl) (by kernel_rfl) (Eq.trans (by kernel_rfl) (store_row (P := Pg) (h := h_47) (t := 35) (v := (.agg t37)) (by kernel_rfl) (by kernel_rfl) e84)) (k := 2) (by kernel_rfl) (fun _ => (Eq.trans (by kernel_rfl) k85)) (by decide) ?_
   obtain ⟨h_86, e87, z⟩ := oS z
   refine WD.eff (h' := h_86) (by kernel_rfl) (by kernel_rfl) (Eq.trans (by kernel_rfl) (store_row (P := Pg) (h := h_83) (t := 27) (v := (.agg t38)) (by kernel_rfl) (by kernel_rfl) e87)) (k := 2) (by kernel_rfl) (fun _ => (by kernel_rfl)) (by decide) ?_
   refine WD.nil ?_
   refine gW [(2, newP h), (3, newP h_2)] (n80 (oY ?_))
   obtain ⟨w2_89, e88, z⟩ := oS z
   obtain ⟨w3_91, e90, z⟩ := oS z
   exact lZ z [.cell 2 35, .cell 3 27] [.agg w2_89, .agg w3_91] (rY e88 (rY e90 res_nil))
noncomputable def pattern_Parse_1 (call : CallF) (_ : Nat) (t0 : AV) (t1 : AV) (t2 : AV) (h : AHeap) : R :=
 obind (ldCell h t0) fun v4 =>
 callK (call 45 [v4] h) fun r5 h_2 =>
 obind (extT 0 r5) fun v6 =>
 obind (avAgg v6) fun t6 =>
 obind (extT 1 r5) fun v7 =>
 obind (avInt .i64 v7) fun t7 =>
 obind (stRow h_2 2 t6 t1) fun h_8 =>
 obind (stRow h_8 1 [.int .i64 t7] t2) fun h_10 =>
 some (.ret (.tup []), h_10)
theorem pattern_Parse_1_ok {call : CallF} (hc : SaysAll Pg call) {n : Nat} {t0 : AV} {t1 : AV} {t2 : AV} {h : AHeap} {rR : ARes} {hR : AHeap} (z : pattern_Parse_1 call n t0 t1 t2 h = some (rR, hR)) : Says Pg 44 [t0, t1, t2] h rR hR := by
 unfold pattern_Parse_1 at z
 refine sO Try.func44 fun w0 m0 => ?_
 refine wW [(0, t0), (1, t1), (2, t2)] ?_
 refine W.r ?_
 refine oL 4 68 z fun v4 z => ?_
 refine oCK hc (some 5) z (fun q => Pf q) fun r5 h_2 z => ?_
 refine oA 3 r5 ?_
 refine oEa 6 z fun t6 z => ?_
 refine oEi 7 z fun t7 z => ?_
 refine oW 35 (.agg t6) z fun h_8 z => ?_
 refine oW 3 (.int .i64 t7) z fun h_10 z => ?_
 refine oV [] ?_
 exact lY z [] [] res_nil
noncomputable def pattern_reader_pattern (call : CallF) (_ : Nat) (t0 : AV) (h : AHeap) : R :=
 lett (newH h 35 [.int .i64 0, .str 0 0]) fun h_2 =>
 obind (stRow h_2 1 [.int .i64 1] (AV.ptr (AHeap.next h) 0)) fun h_5 =>
 obind (idxS ([103, 108, 111, 98, 32] : Bytes) 0) fun t7 =>
 callN (call 68 [t0, .int .u8 t7] h_5) fun r8 h_11 =>
 obind (avBool r8) fun t8 =>
 lett (fun  (h_15 : AHeap) =>
  obind (nilC t0) fun t20 =>
  obind (fldP 1 t20) fun t21 =>
  obind (ldCell h_15 t21) fun v22 =>
  obind (avInt .i64 v22) fun t22 =>
  callK (call 37 [t0, .int .i64 (-1)] h_15) fun r24 h_22 =>
  obind (avStr r24) fun t24 =>
  obind (stRow h_22 1 [strA t24] (AV.ptr (AHeap.next h) 1)) fun h_25 =>
  callK (call 62 [t0] h_25) fun _ h_28 =>
  obind (ldRow h_28 2 (newP h)) fun t28 =>
  obind (stRow h_28 2 t28 (newP h)) fun h_32 =>
  obind (ldRow h_32 2 (newP h)) fun w2 =>
  some (.ret (.tup [.agg w2, .int .i64 t22]), h_32)) fun k14 =>
 ifB t8
 (
  obind (stRow h_11 1 [.int .i64 2] (AV.ptr (AHeap.next h) 0)) fun h_38 =>
  callK (call 69 [t0, strA ([103, 108, 111, 98, 32] : Bytes)] h_38) fun _ h_40 =>
  k14 h_40)
 (
  obind (idxS ([114, 101, 32] : Bytes) 0) fun t14 =>
  callN (call 68 [t0, .int .u8 t14] h_11) fun r15 h_45 =>
  obind (avBool r15) fun t15 =>
  lett (fun  (h_49 : AHeap) =>
   k14 h_49) fun k48 =>
  ifB t15
  (
   obind (stRow h_45 1 [.int .i64 3] (AV.ptr (AHeap.next h) 0)) fun h_51 =>
   callK (call 69 [t0, strA ([114, 101, 32] : Bytes)] h_51) fun _ h_53 =>
   k48 h_53)
  (
   k48 h_45))
theorem pattern_reader_pattern_ok {call : CallF} (hc : SaysAll Pg call) {n : Nat} {t0 : AV} {h : AHeap} {rR : ARes} {hR : AHeap} (z : pattern_reader_pattern call n t0 h = some (rR, hR)) : Says Pg 45 [t0] h rR hR := by
 unfold pattern_reader_pattern at z
 refine sO Try.func45 fun w0 m0 => ?_
 refine wW [(0, t0)] ?_
 refine oG fun n1 => W.r ?_
 refine oN 2 z fun h_2 z => ?_
 refine oA 3 (.int .i64 0) ?_
 refine oV [(0, t0), (2, newP h)] (n1 ?_)
 refine oG fun n4 => W.r ?_
 refine oA 4 (AV.ptr (AHeap.next h) 0) ?_
 refine oW 3 (.int .i64 1) z fun h_5 z => ?_
 refine oV [(0, t0), (2, newP h)] (n4 ?_)
 refine oJ fun n7 p7 => ?_
 refine W.blockK (by kernel_rfl) (fun K8 n8 s8 o8 q8 p8 => ?_)
 refine oG fun n9 => W.r ?_
 refine oA 6 t0 ?_
 refine oX 7 9 .i64 z fun t7 z => ?_
 refine oCb hc 8 z fun t8 h_11 z => ?_
 refine oA 5 (.bool t8) ?_
 refine oV [(0, t0), (2, newP h), (5, .bool t8)] (n9 ?_)
 obtain ⟨k14, e14, z⟩ := lS z
 have J14 : ∀  (h_15 : AHeap), k14 h_15 = some (rR, hR) → Go w0 m0 (Func.ntmps Try.f45) (K8 .normal) [(0, t0), (2, newP h)] [] h_15 := by
  intro  h_15 z
  rw [e14] at z
  refine n8 (n7 ?_)
  refine oG fun n16 => W.r ?_
  refine oA 19 t0 ?_
  refine oC0 20 z fun t20 z => ?_
  refine oF 21 70 1 z fun t21 z => ?_
  refine oLi 22 3 z fun t22 z => ?_
  refine oA 3 (.int .i64 t22) ?_
  refine oV [(0, t0), (2, newP h), (3, .int .i64 t22)] (n16 ?_)
  refine oJ fun n21 p21 => W.r ?_
  refine oA 23 t0 ?_
  refine oCK hc (some 24) z (fun q => p21 (Pf q)) fun r24 h_22 z => ?_
  replace z := oS z; obtain ⟨t24, c24, z⟩ := z
  have c24 := avStr_some c24
  subst c24
  refine oA 25 (AV.ptr (AHeap.next h) 1) ?_
  refine oW 9 (strA t24) z fun h_25 z => ?_
  refine oV [(0, t0), (2, newP h), (3, .int .i64 t22)] (n21 ?_)
  refine oJ fun n27 p27 => W.r ?_
  refine oA 26 t0 ?_
  refine oCK hc (some 27) z (fun q => p27 (Pf q)) fun r27 h_28 z => ?_
  refine oV [(2, newP h), (3, .int .i64 t22)] (n27 ?_)
  refine oG fun n30 => W.r ?_
  refine oR 28 35 z fun t28 z => ?_
  refine oA 29 (.int .i64 t22) ?_
  refine oW 35 (.agg t28) z fun h_32 z => ?_
  refine oA 3 (.int .i64 t22) ?_
  refine oV [(2, newP h), (3, .int .i64 t22)] (n30 (oY ?_))
  obtain ⟨w2, e34, z⟩ := oS z
  exact lZ z [.cell 2 35, .tmp 3] [.agg w2, .int .i64 t22] (rY e34 (rT res_nil))
 cases t8 with
 | true =>
  refine oT z fun z => ?_
  refine oG fun n37 => W.r ?_
  refine oA 9 (AV.ptr (AHeap.next h) 0) ?_
  refine oW 3 (.int .i64 2) z fun h_38 z => ?_
  refine oV [(0, t0), (2, newP h)] (n37 (W.r ?_))
  refine oA 10 t0 ?_
  refine oCK hc (some 11) z (fun q => p8 (p7 (Pf q))) fun r11 h_40 z => ?_
  refine oV [(0, t0), (2, newP h)] ?_
  exact gW _ (J14 _ z)
 | false =>
  refine oU z fun z => ?_
  refine oG fun n43 => W.r ?_
  refine oA 13 t0 ?_
  refine oX 14 9 .i64 z fun t14 z => ?_
  refine oCb hc 15 z fun t15 h_45 z => ?_
  refine oA 12 (.bool t15) ?_
  refine oV [(0, t0), (2, newP h), (12, .bool t15)] (n43 ?_)
  obtain ⟨k48, e48, z⟩ := lS z
  have J48 : ∀  (h_49 : AHeap), k48 h_49 = some (rR, hR) → Go w0 m0 (Func.ntmps Try.f45) (K8 .normal) [(0, t0), (2, newP h)] [] h_49 := by
   intro  h_49 z
   rw [e48] at z
   exact gW _ (J14 _ z)
  cases t15 with
  | true =>
   refine oT z fun z => ?_
   refine oG fun n50 => W.r ?_
   refine oA 16 (AV.ptr (AHeap.next h) 0) ?_
   refine oW 3 (.int .i64 3) z fun h_51 z => ?_
   refine oV [(0, t0), (2, newP h)] (n50 (W.r ?_))
   refine oA 17 t0 ?_
   refine oCK hc (some 18) z (fun q => p8 (p7 (Pf q))) fun r18 h_53 z => ?_
   refine oV [(0, t0), (2, newP h)] ?_
   exact gW _ (J48 _ z)
  | false =>
   refine oU z fun z => ?_
   refine oZ ?_
   exact gW _ (J48 _ z)
noncomputable def pattern_reader_word_L0b (call : CallF) (t0 : AV) (t1 : Bytes) (k3 : AHeap → R) (self : Int → AHeap → R) (t7 : Int) (h_6 : AHeap) : R :=
 lett (decide (t7 < (lenS t1))) fun (t8 : Bool) =>
 ifB t8
 (
  obind (idxS t1 t7) fun t13 =>
  callK (call 54 [t0, .int .u8 t13] h_6) fun _ h_14 =>
  lett (IntKind.i64.wrap (t7 + 1)) fun (t15 : Int) =>
  self t15 h_14)
 (
  k3 h_6)
noncomputable def pattern_reader_word_L0 (call : CallF) (t0 : AV) (t1 : Bytes) (k3 : AHeap → R) : Nat → Int → AHeap → R := iterR (fun _ _ => none) (pattern_reader_word_L0b call t0 t1 k3)
theorem pattern_reader_word_L0_s (call : CallF) (t0 : AV) (t1 : Bytes) (k3 : AHeap → R) (m : Nat) : pattern_reader_word_L0 call t0 t1 k3 (m + 1) = pattern_reader_word_L0b call t0 t1 k3 (pattern_reader_word_L0 call t0 t1 k3 m) := rfl
noncomputable def pattern_reader_word (call : CallF) (n : Nat) (t0 : AV) (t1 : Bytes) (h : AHeap) : R :=
 lett (fun  (h_4 : AHeap) =>
  some (.ret (.tup []), h_4)) fun k3 =>
 pattern_reader_word_L0 call t0 t1 k3 n 0 h
theorem pattern_reader_word_ok {call : CallF} (hc : SaysAll Pg call) {n : Nat} {t0 : AV} {t1 : Bytes} {h : AHeap} {rR : ARes} {hR : AHeap} (z : pattern_reader_word call n t0 t1 h = some (rR, hR)) : Says Pg 69 [t0, strA t1] h rR hR := by
 unfold pattern_reader_word at z
 refine sO Try.func69 fun w0 m0 => ?_
 refine wW [(0, t0), (1, strA t1)] ?_
 refine oG fun n1 => W.r ?_
 refine oA 5 (strA t1) ?_
 refine oA 6 (.int .i64 (lenS t1)) ?_
 refine oA 7 (.int .i64 0) ?_
 refine oV [(0, t0), (1, strA t1), (6, .int .i64 (lenS t1)), (7, .int .i64 0)] (n1 ?_)
 obtain ⟨k3, e3, z⟩ := lS z
 have J3 : ∀  (h_4 : AHeap), k3 h_4 = some (rR, hR) → Go w0 m0 (Func.ntmps Try.f69) (Fin Pg Try.f69 w0 m0 rR hR .normal) [] [] h_4 := by
  intro  h_4 z
  rw [e3] at z
  exact lY z [] [] res_nil
 refine W.blockK (by kernel_rfl) (fun K2 n2 s2 o2 q2 p2 => ?_)
 refine W.loopK (by kernel_rfl) (fun I5 K5 b5 n5 e5 q5 p5 => ?_)
 have L5 : ∀ (m : Nat) (t7 : Int) (h_6 : AHeap), pattern_reader_word_L0 call t0 t1 k3 m t7 h_6 = some (rR, hR) → Go w0 m0 (Func.ntmps Try.f69) I5 [(0, t0), (1, strA t1), (6, .int .i64 (lenS t1)), (7, .int .i64 t7)] [] h_6 := by
  intro m
  induction m with
  | zero => intro t7 h_6 z; cases z
  | succ m ih5 =>
   intro t7 h_6 z
   rw [pattern_reader_word_L0_s] at z; unfold pattern_reader_word_L0b at z
   refine b5 ?_
   refine oG fun n7 => W.r ?_
   refine oB 8 z fun t8 z => ?_
   refine oV [(0, t0), (1, strA t1), (6, .int .i64 (lenS t1)), (7, .int .i64 t7), (8, .bool t8)] (n7 ?_)
   refine W.s (fun _ n9 e9 _ _ => ?_)
   cases t8 with
   | true =>
    refine oT z fun z => ?_
    refine oZ (n9 ?_)
    refine oJ fun n10 p10 => ?_
    refine W.blockK (by kernel_rfl) (fun K11 n11 s11 o11 q11 p11 => ?_)
    refine oG fun n12 => W.r ?_
    refine oA 9 (.int .i64 t7) ?_
    refine oA 4 (.int .i64 t7) ?_
    refine oV [(0, t0), (1, strA t1), (4, .int .i64 t7), (6, .int .i64 (lenS t1)), (7, .int .i64 t7)] (n12 (W.r ?_))
    refine oA 10 t0 ?_
    refine oA 11 (strA t1) ?_
    refine oA 12 (.int .i64 t7) ?_
    refine oX 13 9 .i64 z fun t13 z => ?_
    refine oCK hc (some 14) z (fun q => p11 (p10 (p5 (p2 (Pf q))))) fun r14 h_14 z => ?_
    refine oV [(0, t0), (1, strA t1), (6, .int .i64 (lenS t1)), (7, .int .i64 t7)] (n11 (n10 (W.r ?_)))
    refine oI 15 .i64 z fun t15 z => ?_
    refine oA 7 (.int .i64 t15) ?_
    refine oV [(0, t0), (1, strA t1), (6, .int .i64 (lenS t1)), (7, .int .i64 t15)] (n5 ?_)
    exact gW _ (ih5 _ _ z)
   | false =>
    refine oU z fun z => ?_
    refine W.exit (by kernel_rfl) ?_
    refine e9 (e5 ?_)
    refine s2 (by kernel_rfl) ?_
    exact gW _ (J3 _ z)
 exact gW _ (L5 _ _ _ z)
noncomputable def pattern_Quote_L0b (call : CallF) (t0 : Bytes) (h : AHeap) (k11 : AHeap → R) (self : Int → AHeap → R) (t8 : Int) (h_21 : AHeap) : R :=
 lett (decide (t8 < (lenS t0))) fun (t9 : Bool) =>
 ifB t9
 (
  obind (idxS t0 t8) fun t13 =>
  callN (call 30 [(newP h), .int .u8 t13] h_21) fun _ h_29 =>
  lett (IntKind.i64.wrap (t8 + 1)) fun (t15 : Int) =>
  self t15 h_29)
 (
  k11 h_21)
noncomputable def pattern_Quote_L0 (call : CallF) (t0 : Bytes) (h : AHeap) (k11 : AHeap → R) : Nat → Int → AHeap → R := iterR (fun _ _ => none) (pattern_Quote_L0b call t0 h k11)
theorem pattern_Quote_L0_s (call : CallF) (t0 : Bytes) (h : AHeap) (k11 : AHeap → R) (m : Nat) : pattern_Quote_L0 call t0 h k11 (m + 1) = pattern_Quote_L0b call t0 h k11 (pattern_Quote_L0 call t0 h k11 m) := rfl
noncomputable def pattern_Quote (call : CallF) (n : Nat) (t0 : Bytes) (h : AHeap) : R :=
 lett (newH h 57 [.nilp, .nsl]) fun h_3 =>
 callN (call 29 [(newP h), .int .u8 34] h_3) fun _ h_6 =>
 lett (fun  (h_12 : AHeap) =>
  callN (call 29 [(newP h), .int .u8 34] h_12) fun _ h_14 =>
  callN (call 31 [(newP h)] h_14) fun r17 h_17 =>
  obind (avStr r17) fun t17 =>
  some (.ret (strA t17), h_17)) fun k11 =>
 pattern_Quote_L0 call t0 h k11 n 0 h_6
theorem pattern_Quote_ok {call : CallF} (hc : SaysAll Pg call) {n : Nat} {t0 : Bytes} {h : AHeap} {rR : ARes} {hR : AHeap} (z : pattern_Quote call n t0 h = some (rR, hR)) : Says Pg 15 [strA t0] h rR hR := by
 unfold pattern_Quote at z
 refine sO Try.func15 fun w0 m0 => ?_
 refine wW [(0, strA t0)] ?_
 refine oG fun n1 => W.r ?_
 refine oA 2 (strA ([] : Bytes)) ?_
 refine oV [(0, strA t0)] (n1 ?_)
 refine oG fun n2 => W.r ?_
 refine oN 3 z fun h_3 z => ?_
 refine oV [(0, strA t0), (3, newP h)] (n2 ?_)
 refine oG fun n5 => W.r ?_
 refine oC hc (some 5) z fun r5 h_6 z => ?_
 refine oV [(0, strA t0), (3, newP h)] (n5 ?_)
 refine W.s (fun K8 n8 _ _ _ => ?_)
 refine oG fun n9 => W.r ?_
 refine oA 6 (strA t0) ?_
 refine oA 7 (.int .i64 (lenS t0)) ?_
 refine oA 8 (.int .i64 0) ?_
 refine oV [(0, strA t0), (3, newP h), (7, .int .i64 (lenS t0)), (8, .int .i64 0)] (n9 ?_)
 obtain ⟨k11, e11, z⟩ := lS z
 have J11 : ∀  (h_12 : AHeap), k11 h_12 = some (rR, hR) → Go w0 m0 (Func.ntmps Try.f15) (K8 .normal) [(3, newP h)] [] h_12 := by
  intro  h_12 z
  rw [e11] at z
  refine n8 ?_
  refine oG fun n13 => W.r ?_
  refine oC hc (some 16) z fun r16 h_14 z => ?_
  refine oV [(3, newP h)] (n13 ?_)
  refine oG fun n16 => W.r ?_
  refine oCs hc 17 z fun t17 h_17 z => ?_
  refine oA 2 (strA t17) ?_
  refine oV [(2, strA t17)] (n16 (oY ?_))
  exact lZ z [.tmp 2] [strA t17] (rT res_nil)
 refine W.blockK (by kernel_rfl) (fun K10 n10 s10 o10 q10 p10 => ?_)
 refine W.loopK (by kernel_rfl) (fun I20 K20 b20 n20 e20 q20 p20 => ?_)
 have L20 : ∀ (m : Nat) (t8 : Int) (h_21 : AHeap), pattern_Quote_L0 call t0 h k11 m t8 h_21 = some (rR, hR) → Go w0 m0 (Func.ntmps Try.f15) I20 [(0, strA t0), (3, newP h), (7, .int .i64 (lenS t0)), (8, .int .i64 t8)] [] h_21 := by
  intro m
  induction m with
  | zero => intro t8 h_21 z; cases z
  | succ m ih20 =>
   intro t8 h_21 z
   rw [pattern_Quote_L0_s] at z; unfold pattern_Quote_L0b at z
   refine b20 ?_
   refine oG fun n22 => W.r ?_
   refine oB 9 z fun t9 z => ?_
   refine oV [(0, strA t0), (3, newP h), (7, .int .i64 (lenS t0)), (8, .int .i64 t8), (9, .bool t9)] (n22 ?_)
   refine W.s (fun _ n24 e24 _ _ => ?_)
   cases t9 with
   | true =>
    refine oT z fun z => ?_
    refine oZ (n24 ?_)
    refine oG fun n25 => ?_
    refine W.blockK (by kernel_rfl) (fun K26 n26 s26 o26 q26 p26 => ?_)
    refine oG fun n27 => W.r ?_
    refine oA 10 (.int .i64 t8) ?_
    refine oA 4 (.int .i64 t8) ?_
    refine oV [(0, strA t0), (3, newP h), (4, .int .i64 t8), (7, .int .i64 (lenS t0)), (8, .int .i64 t8)] (n27 (W.r ?_))
    refine oA 11 (strA t0) ?_
    refine oA 12 (.int .i64 t8) ?_
    refine oX 13 9 .i64 z fun t13 z => ?_
    refine oC hc (some 14) z fun r14 h_29 z => ?_
    refine oV [(0, strA t0), (3, newP h), (7, .int .i64 (lenS t0)), (8, .int .i64 t8)] (n26 (n25 (W.r ?_)))
    refine oI 15 .i64 z fun t15 z => ?_
    refine oA 8 (.int .i64 t15) ?_
    refine oV [(0, strA t0), (3, newP h), (7, .int .i64 (lenS t0)), (8, .int .i64 t15)] (n20 ?_)
    exact gW _ (ih20 _ _ z)
   | false =>
    refine oU z fun z => ?_
    refine W.exit (by kernel_rfl) ?_
    refine e24 (e20 ?_)
    refine s10 (by kernel_rfl) ?_
    exact gW _ (J11 _ z)
 exact gW _ (L20 _ _ _ z)
noncomputable def pattern_writeForm (call : CallF) (_ : Nat) (t0 : AV) (t1 : Int) (h : AHeap) : R :=
 callN (call 50 [.int .u8 t1] h) fun r6 h_3 =>
 obind (avInt .u8 r6) fun t6 =>
 lett ((t6 : Int) != 0) fun (t8 : Bool) =>
 ifB t8
 (
  callN (call 29 [t0, .int .u8 92] h_3) fun _ h_9 =>
  callN (call 29 [t0, .int .u8 t6] h_9) fun _ h_12 =>
  some (.ret (.tup []), h_12))
 (
  callN (call 51 [.int .u8 t1] h_3) fun r15 h_16 =>
  obind (avBool r15) fun t15 =>
  ifB t15
  (
   callN (call 29 [t0, .int .u8 t1] h_16) fun _ h_20 =>
   some (.ret (.tup []), h_20))
  (
   callN (call 52 [t0, strA ([92, 120] : Bytes)] h_16) fun _ h_23 =>
   obind (shrI .u8 t1 4) fun t23 =>
   obind (idxS ([48, 49, 50, 51, 52, 53, 54, 55, 56, 57, 97, 98, 99, 100, 101, 102] : Bytes) t23) fun t24 =>
   callN (call 29 [t0, .int .u8 t24] h_23) fun _ h_28 =>
   lett (andI .u8 t1 15) fun (t28 : Int) =>
   obind (idxS ([48, 49, 50, 51, 52, 53, 54, 55, 56, 57, 97, 98, 99, 100, 101, 102] : Bytes) t28) fun t29 =>
   callN (call 29 [t0, .int .u8 t29] h_28) fun _ h_32 =>
   some (.ret (.tup []), h_32)))
theorem pattern_writeForm_ok {call : CallF} (hc : SaysAll Pg call) {n : Nat} {t0 : AV} {t1 : Int} {h : AHeap} {rR : ARes} {hR : AHeap} (z : pattern_writeForm call n t0 t1 h = some (rR, hR)) : Says Pg 30 [t0, .int .u8 t1] h rR hR := by
 unfold pattern_writeForm at z
 refine sO Try.func30 fun w0 m0 => ?_
 refine wW [(0, t0), (1, .int .u8 t1)] ?_
 refine oH fun n1 q1 => ?_
 refine oG fun n2 => W.r ?_
 refine oA 5 (.int .u8 t1) ?_
 refine oCi hc 6 z fun t6 h_3 z => ?_
 refine oA 4 (.int .u8 t6) ?_
 refine oV [(0, t0), (1, .int .u8 t1), (4, .int .u8 t6)] (n2 ?_)
 refine oG fun n6 => W.r ?_
 refine oA 7 (.int .u8 t6) ?_
 refine oB 8 z fun t8 z => ?_
 refine oV [(0, t0), (1, .int .u8 t1), (4, .int .u8 t6), (8, .bool t8)] (n6 ?_)
 cases t8 with
 | true =>
  refine oT z fun z => ?_
  refine oG fun n8 => W.r ?_
  refine oA 9 t0 ?_
  refine oC hc (some 10) z fun r10 h_9 z => ?_
  refine oV [(0, t0), (4, .int .u8 t6)] (n8 ?_)
  refine oG fun n11 => W.r ?_
  refine oA 11 t0 ?_
  refine oA 12 (.int .u8 t6) ?_
  refine oC hc (some 13) z fun r13 h_12 z => ?_
  refine oV [] (n11 (oY (q1 ?_)))
  exact lZ z [] [] res_nil
 | false =>
  refine oU z fun z => ?_
  refine oZ (n1 ?_)
  refine oH fun n14 q14 => ?_
  refine oG fun n15 => W.r ?_
  refine oA 14 (.int .u8 t1) ?_
  refine oCb hc 15 z fun t15 h_16 z => ?_
  refine oV [(0, t0), (1, .int .u8 t1), (15, .bool t15)] (n15 ?_)
  cases t15 with
  | true =>
   refine oT z fun z => ?_
   refine oG fun n19 => W.r ?_
   refine oA 16 t0 ?_
   refine oA 17 (.int .u8 t1) ?_
   refine oC hc (some 18) z fun r18 h_20 z => ?_
   refine oV [] (n19 (oY (q14 ?_)))
   exact lZ z [] [] res_nil
  | false =>
   refine oU z fun z => ?_
   refine oZ (n14 ?_)
   refine oG fun n22 => W.r ?_
   refine oA 19 t0 ?_
   refine oC hc (some 20) z fun r20 h_23 z => ?_
   refine oV [(0, t0), (1, .int .u8 t1)] (n22 ?_)
   refine oG fun n25 => W.r ?_
   refine oA 21 t0 ?_
   refine oA 22 (.int .u8 t1) ?_
   obtain ⟨t23, e26, z⟩ := oS z
   refine WL.b (some 23) (.int .u8 t23) h_23 (shr_int (P := Pg) (h := h_23) (t := 5) (k' := .u64) (lit := true) e26) ?_
   refine oX 24 9 .u8 z fun t24 z => ?_
   refine oC hc (some 25) z fun r25 h_28 z => ?_
   refine oV [(0, t0), (1, .int .u8 t1)] (n25 (W.r ?_))
   refine oA 26 t0 ?_
   refine oA 27 (.int .u8 t1) ?_
   refine oI 28 .u8 z fun t28 z => ?_
   refine oX 29 9 .u8 z fun t29 z => ?_
   refine oC hc (some 30) z fun r30 h_32 z => ?_
   refine oV [] ?_
   exact lY z [] [] res_nil
noncomputable def strings_Builder_WriteString (call : CallF) (_ : Nat) (t0 : AV) (t1 : Bytes) (h : AHeap) : R :=
 callN (call 49 [t0] h) fun _ h_3 =>
 obind (nilC t0) fun t10 =>
 obind (fldP 1 t10) fun t11 =>
 obind (ldCell h_3 t11) fun v12 =>
 outK (opAppend Pg h_3 50 9 v12 (strA t1)) fun v14 h_9 =>
 obind (nilC t0) fun t15 =>
 obind (fldP 1 t15) fun t16 =>
 obind (stRow h_9 1 (AV.cells v14) t16) fun h_13 =>
 some (.ret (.tup [.int .i64 (lenS t1), AV.nifc]), h_13)
theorem strings_Builder_WriteString_ok {call : CallF} (hc : SaysAll Pg call) {n : Nat} {t0 : AV} {t1 : Bytes} {h : AHeap} {rR : ARes} {hR : AHeap} (z : strings_Builder_WriteString call n t0 t1 h = some (rR, hR)) : Says Pg 52 [t0, strA t1] h rR hR := by
 unfold strings_Builder_WriteString at z
 refine sO Try.func52 fun w0 m0 => ?_
 refine wW [(0, t0), (1, strA t1)] ?_
 refine oG fun n1 => W.r ?_
 refine oA 4 (.int .i64 0) ?_
 refine oA 5 AV.nifc ?_
 refine oV [(0, t0), (1, strA t1)] (n1 ?_)
 refine oG fun n2 => W.r ?_
 refine oA 6 t0 ?_
 refine oC hc (some 7) z fun r7 h_3 z => ?_
 refine oV [(0, t0), (1, strA t1)] (n2 ?_)
 refine oG fun n5 => W.r ?_
 refine oA 8 t0 ?_
 refine oA 9 t0 ?_
 refine oC0 10 z fun t10 z => ?_
 refine oF 11 57 1 z fun t11 z => ?_
 refine oL 12 50 z fun v12 z => ?_
 refine oA 13 (strA t1) ?_
 refine oK 14 z fun v14 h_9 z => ?_
 refine oC0 15 z fun t15 z => ?_
 refine oF 16 57 1 z fun t16 z => ?_
 refine oW 50 v14 z fun h_13 z => ?_
 refine oV [(1, strA t1)] (n5 ?_)
 refine oG fun n15 => W.r ?_
 refine oA 17 (strA t1) ?_
 refine oA 18 (.int .i64 (lenS t1)) ?_
 refine oA 4 (.int .i64 (lenS t1)) ?_
 refine oA 5 AV.nifc ?_
 refine oV [(4, .int .i64 (lenS t1)), (5, AV.nifc)] (n15 (oY ?_))
 exact lZ z [.tmp 4, .tmp 5] [.int .i64 (lenS t1), AV.nifc] (rT (rT res_nil))
noncomputable def pattern_Print (call : CallF) (_ : Nat) (t0 : List AV) (h : AHeap) : R :=
 outK (opBox h 35 (some (.agg t0))) fun v1 h_2 =>
 obind (ldRow h_2 2 v1) fun t6 =>
 callN (call 21 [.agg t6] h_2) fun r7 h_7 =>
 obind (extT 0 r7) fun v8 =>
 obind (avAgg v8) fun t8 =>
 obind (extT 1 r7) fun v9 =>
 obind (avAgg v9) fun t9 =>
 lett (newH h_7 41 [.int .i64 0, .int .u64 0, .int .u64 0, .int .u64 0, .int .u64 0, .nsl]) fun h_13 =>
 lett (newH h_13 27 [.int .i64 0, .int .i64 0]) fun h_15 =>
 obind (stRow h_15 6 t8 (newP h_7)) fun h_17 =>
 obind (stRow h_17 2 t9 (newP h_13)) fun h_19 =>
 obind (ldCell h_19 (AV.ptr (AHeap.next h_13) 0)) fun v11 =>
 obind (avInt .i64 v11) fun t11 =>
 lett ((t11 : Int) != 0) fun (t12 : Bool) =>
 ifB t12
 (
  some (.ret (strA ([] : Bytes)), h_19))
 (
  obind (fldP 0 v1) fun t13 =>
  obind (ldCell h_19 t13) fun v14 =>
  obind (avInt .i64 v14) fun t14 =>
  lett ((t14 : Int) == 2) fun (t16 : Bool) =>
  ifB t16
  (
   obind (fldP 1 v1) fun t17 =>
   obind (ldCell h_19 t17) fun v18 =>
   obind (avStr v18) fun t18 =>
   callN (call 15 [strA t18] h_19) fun r19 h_38 =>
   obind (avStr r19) fun t19 =>
   obind (addS ([103, 108, 111, 98, 32] : Bytes) t19) fun t20 =>
   some (.ret (strA t20), h_38))
  (
   lett ((t14 : Int) == 3) fun (t22 : Bool) =>
   ifB t22
   (
    obind (fldP 1 v1) fun t23 =>
    obind (ldCell h_19 t23) fun v24 =>
    obind (avStr v24) fun t24 =>
    callN (call 15 [strA t24] h_19) fun r25 h_48 =>
    obind (avStr r25) fun t25 =>
    obind (addS ([114, 101, 32] : Bytes) t25) fun t26 =>
    some (.ret (strA t26), h_48))
   (
    obind (fldP 1 v1) fun t27 =>
    obind (ldCell h_19 t27) fun v28 =>
    obind (avStr v28) fun t28 =>
    callN (call 15 [strA t28] h_19) fun r29 h_56 =>
    obind (avStr r29) fun t29 =>
    some (.ret (strA t29), h_56))))
theorem pattern_Print_ok {call : CallF} (hc : SaysAll Pg call) {n : Nat} {t0 : List AV} {h : AHeap} {rR : ARes} {hR : AHeap} (z : pattern_Print call n t0 h = some (rR, hR)) : Says Pg 26 [.agg t0] h rR hR := by
 unfold pattern_Print at z
 refine sO Try.func26 fun w0 m0 => ?_
 refine wW [(0, .agg t0)] ?_
 refine oG fun n1 => W.r ?_
 refine oK 1 z fun v1 h_2 z => ?_
 refine oA 2 (strA ([] : Bytes)) ?_
 refine oV [(1, v1)] (n1 ?_)
 refine oH fun n4 q4 => ?_
 refine oG fun n5 => W.r ?_
 refine oR 6 35 z fun t6 z => ?_
 refine oC hc (some 7) z fun r7 h_7 z => ?_
 refine oA 5 r7 ?_
 refine oEa 8 z fun t8 z => ?_
 refine oEa 9 z fun t9 z => ?_
 refine oN 3 z fun h_13 z => ?_
 refine oN 4 z fun h_15 z => ?_
 refine oW 41 (.agg t8) z fun h_17 z => ?_
 refine oW 27 (.agg t9) z fun h_19 z => ?_
 refine oV [(1, v1), (4, newP h_13)] (n5 ?_)
 refine oG fun n21 => W.r ?_
 refine oA 10 (AV.ptr (AHeap.next h_13) 0) ?_
 refine oLi 11 25 z fun t11 z => ?_
 refine oB 12 z fun t12 z => ?_
 refine oV [(1, v1), (12, .bool t12)] (n21 ?_)
 cases t12 with
 | true =>
  refine oT z fun z => ?_
  refine oG fun n25 => W.r ?_
  refine oA 2 (strA ([] : Bytes)) ?_
  refine oV [(2, strA ([] : Bytes))] (n25 (oY (q4 ?_)))
  exact lZ z [.tmp 2] [strA ([] : Bytes)] (rT res_nil)
 | false =>
  refine oU z fun z => ?_
  refine oZ (n4 ?_)
  refine oH fun n26 q26 => ?_
  refine oG fun n27 => W.r ?_
  refine oF 13 35 0 z fun t13 z => ?_
  refine oLi 14 3 z fun t14 z => ?_
  refine oV [(1, v1), (14, .int .i64 t14)] (n27 ?_)
  refine W.blockK (by kernel_rfl) (fun K31 n31 s31 o31 q31 p31 => ?_)
  refine oG fun n32 => W.r ?_
  refine oB 16 z fun t16 z => ?_
  refine oA 15 (.bool t16) ?_
  refine oV [(1, v1), (14, .int .i64 t14), (15, .bool t16)] (n32 ?_)
  cases t16 with
  | true =>
   refine oT z fun z => ?_
   refine oG fun n34 => W.r ?_
   refine oF 17 35 1 z fun t17 z => ?_
   refine oLs 18 9 z fun t18 z => ?_
   refine oCs hc 19 z fun t19 h_38 z => ?_
   obtain ⟨t20, e41, z⟩ := oS z
   refine WL.b (some 20) (strA t20) h_38 (add_str (P := Pg) (h := h_38) (t := 9) (lit := true) e41) ?_
   refine oA 2 (strA t20) ?_
   refine oV [(2, strA t20)] (n34 (oY (q31 (q26 ?_))))
   exact lZ z [.tmp 2] [strA t20] (rT res_nil)
  | false =>
   refine oU z fun z => ?_
   refine oG fun n42 => W.r ?_
   refine oB 22 z fun t22 z => ?_
   refine oA 21 (.bool t22) ?_
   refine oV [(1, v1), (21, .bool t22)] (n42 ?_)
   cases t22 with
   | true =>
    refine oT z fun z => ?_
    refine oG fun n44 => W.r ?_
    refine oF 23 35 1 z fun t23 z => ?_
    refine oLs 24 9 z fun t24 z => ?_
    refine oCs hc 25 z fun t25 h_48 z => ?_
    obtain ⟨t26, e51, z⟩ := oS z
    refine WL.b (some 26) (strA t26) h_48 (add_str (P := Pg) (h := h_48) (t := 9) (lit := true) e51) ?_
    refine oA 2 (strA t26) ?_
    refine oV [(2, strA t26)] (n44 (oY (q31 (q26 ?_))))
    exact lZ z [.tmp 2] [strA t26] (rT res_nil)
   | false =>
    refine oU z fun z => ?_
    refine oZ (n31 (n26 ?_))
    refine oG fun n52 => W.r ?_
    refine oF 27 35 1 z fun t27 z => ?_
    refine oLs 28 9 z fun t28 z => ?_
    refine oCs hc 29 z fun t29 h_56 z => ?_
    refine oA 2 (strA t29) ?_
    refine oV [(2, strA t29)] (n52 (oY ?_))
    exact lZ z [.tmp 2] [strA t29] (rT res_nil)
set_option maxHeartbeats 4000000
set_option maxRecDepth 20000
noncomputable def law09_long (_ : CallF) (_ : Nat) (t0 : Int) (h : AHeap) : R :=
 lett (decide (t0 > 65536)) fun (t4 : Bool) =>
 some (.ret (.bool t4), h)
theorem law09_long_ok {call : CallF} (_ : SaysAll Pg call) {n : Nat} {t0 : Int} {h : AHeap} {rR : ARes} {hR : AHeap} (z : law09_long call n t0 h = some (rR, hR)) : Says Pg 14 [.int .i64 t0] h rR hR := by
 unfold law09_long at z
 refine sO Try.func14 fun w0 m0 => ?_
 refine wW [(0, .int .i64 t0)] ?_
 refine oG fun n1 => W.r ?_
 refine oA 2 (.bool false) ?_
 refine oV [(0, .int .i64 t0)] (n1 ?_)
 refine oG fun n2 => W.r ?_
 refine oA 3 (.int .i64 t0) ?_
 refine oB 4 z fun t4 z => ?_
 refine oA 2 (.bool t4) ?_
 refine oV [(2, .bool t4)] (n2 (oY ?_))
 exact lZ z [.tmp 2] [.bool t4] (rT res_nil)
noncomputable def worldF (n : Nat) (call : CallF) : CallF := callOf [
 (13, (constF (.ret (.bool true)))),
 (87, ibF),
 (35, fn1 Dv (pattern_guard call n)),
 (37, fn2 Dv (Di .i64) (pattern_reader_quoted call n)),
 (54, fn2 Dv (Di .u8) (pattern_reader_take call n)),
 (55, fn2 Dv (Di .u8) (pattern_reader_skips call n)),
 (68, fn2 Dv (Di .u8) (pattern_reader_sees call n)),
 (74, fn1 Dv (pattern_reader_ended call n)),
 (62, fn1 Dv (pattern_reader_end call n)),
 (58, fn1 Dv (pattern_reader_form call n)),
 (71, fn1 Dv (pattern_reader_next call n)),
 (72, fn1 Dv (pattern_reader_refuseLast call n)),
 (57, gcF (fn2 (Di .i64) (Di .i64) (pattern_refuse call n))),
 (73, fn1 Dv (pattern_reader_twoDigits call n)),
 (81, fn1 Dv (pattern_reader_digit call n)),
 (82, gcF (fn1 (Di .u8) (pattern_mayBegin call n))),
 (83, gcF (fn1 (Di .u8) (pattern_byDigits call n))),
 (50, gcF (fn1 (Di .u8) (pattern_short call n))),
 (51, gcF (fn1 (Di .u8) (pattern_plain call n))),
 (29, fn2 Dv (Di .u8) (strings_Builder_WriteByte call n)),
 (56, fn1 Dv (strings_Builder_Len call n)),
 (31, fn1 Dv (strings_Builder_String call n)),
 (49, fn1 Dv (strings_Builder_copyCheck call n)),
 (16, gcF (fn1 Ds (pattern_Unquote call n))),
 (19, gcF (fn2 Ds (Di .i64) (pattern_Quoted call n))),
 (36, fn3 Dv Dv Dv (pattern_Quoted_1 call n)),
 (21, gcF (fn1 Da (pattern_Tree call n))),
 (39, fn3 Dv Dv Dv (pattern_Tree_1 call n)),
 (40, fn2 Dv (Di .i64) (pattern_reader_tree call n)),
 (59, fn2 Dv Dv (pattern_reader_row call n)),
 (63, fn1 Dv (pattern_reader_literalPart call n)),
 (60, fn1 Dv (pattern_reader_globPart call n)),
 (61, fn1 Dv (pattern_reader_alternatives call n)),
 (79, fn1 Dv (pattern_reader_regularRow call n)),
 (85, fn1 Dv (pattern_reader_regularPart call n)),
 (88, fn1 Dv (pattern_reader_atom call n)),
 (91, fn1 Dv (pattern_reader_members call n)),
 (93, fn2 Dv Dv (pattern_reader_member call n)),
 (94, fn1 Dv (pattern_reader_memberByte call n)),
 (84, fn3 Dv (Di .u8) (Di .u8) (pattern_addSpan call n)),
 (78, gcF (fn1 (Di .u8) (pattern_oneByte call n))),
 (77, gcF (fn0 (pattern_anyByte call n))),
 (76, fn2 (Di .i64) Dv (pattern_over call n)),
 (75, fn1 Dv (pattern_inRow call n)),
 (24, gcF (fn1 Ds (pattern_Parse call n))),
 (44, fn3 Dv Dv Dv (pattern_Parse_1 call n)),
 (45, fn1 Dv (pattern_reader_pattern call n)),
 (69, fn2 Dv Ds (pattern_reader_word call n)),
 (15, gcF (fn1 Ds (pattern_Quote call n))),
 (30, fn2 Dv (Di .u8) (pattern_writeForm call n)),
 (52, fn2 Dv Ds (strings_Builder_WriteString call n)),
 (26, gcF (fn1 Da (pattern_Print call n))),
 (14, gcF (fn1 (Di .i64) (law09_long call n)))]
set_option maxRecDepth 20000 in
theorem worldF_ok (n : Nat) (call : CallF) (hc : SaysAll Try.prog call) : SaysAll Try.prog (worldF n call) := (callOf_cons works_holds
 (callOf_cons ibF_holds
 (callOf_cons (fn1_holds Dv (pattern_guard_ok hc))
 (callOf_cons (fn2_holds Dv (Di .i64) (pattern_reader_quoted_ok hc))
 (callOf_cons (fn2_holds Dv (Di .u8) (pattern_reader_take_ok hc))
 (callOf_cons (fn2_holds Dv (Di .u8) (pattern_reader_skips_ok hc))
 (callOf_cons (fn2_holds Dv (Di .u8) (pattern_reader_sees_ok hc))
 (callOf_cons (fn1_holds Dv (pattern_reader_ended_ok hc))
 (callOf_cons (fn1_holds Dv (pattern_reader_end_ok hc))
 (callOf_cons (fn1_holds Dv (pattern_reader_form_ok hc))
 (callOf_cons (fn1_holds Dv (pattern_reader_next_ok hc))
 (callOf_cons (fn1_holds Dv (pattern_reader_refuseLast_ok hc))
 (callOf_cons (gcF_holds (fn2_holds (Di .i64) (Di .i64) (pattern_refuse_ok hc)))
 (callOf_cons (fn1_holds Dv (pattern_reader_twoDigits_ok hc))
 (callOf_cons (fn1_holds Dv (pattern_reader_digit_ok hc))
 (callOf_cons (gcF_holds (fn1_holds (Di .u8) (pattern_mayBegin_ok hc)))
 (callOf_cons (gcF_holds (fn1_holds (Di .u8) (pattern_byDigits_ok hc)))
 (callOf_cons (gcF_holds (fn1_holds (Di .u8) (pattern_short_ok hc)))
 (callOf_cons (gcF_holds (fn1_holds (Di .u8) (pattern_plain_ok hc)))
 (callOf_cons (fn2_holds Dv (Di .u8) (strings_Builder_WriteByte_ok hc))
 (callOf_cons (fn1_holds Dv (strings_Builder_Len_ok hc))
 (callOf_cons (fn1_holds Dv (strings_Builder_String_ok hc))
 (callOf_cons (fn1_holds Dv (strings_Builder_copyCheck_ok hc))
 (callOf_cons (gcF_holds (fn1_holds Ds (pattern_Unquote_ok hc)))
 (callOf_cons (gcF_holds (fn2_holds Ds (Di .i64) (pattern_Quoted_ok hc)))
 (callOf_cons (fn3_holds Dv Dv Dv (pattern_Quoted_1_ok hc))
 (callOf_cons (gcF_holds (fn1_holds Da (pattern_Tree_ok hc)))
 (callOf_cons (fn3_holds Dv Dv Dv (pattern_Tree_1_ok hc))
 (callOf_cons (fn2_holds Dv (Di .i64) (pattern_reader_tree_ok hc))
 (callOf_cons (fn2_holds Dv Dv (pattern_reader_row_ok hc))
 (callOf_cons (fn1_holds Dv (pattern_reader_literalPart_ok hc))
 (callOf_cons (fn1_holds Dv (pattern_reader_globPart_ok hc))
 (callOf_cons (fn1_holds Dv (pattern_reader_alternatives_ok hc))
 (callOf_cons (fn1_holds Dv (pattern_reader_regularRow_ok hc))
 (callOf_cons (fn1_holds Dv (pattern_reader_regularPart_ok hc))
 (callOf_cons (fn1_holds Dv (pattern_reader_atom_ok hc))
 (callOf_cons (fn1_holds Dv (pattern_reader_members_ok hc))
 (callOf_cons (fn2_holds Dv Dv (pattern_reader_member_ok hc))
 (callOf_cons (fn1_holds Dv (pattern_reader_memberByte_ok hc))
 (callOf_cons (fn3_holds Dv (Di .u8) (Di .u8) (pattern_addSpan_ok hc))
 (callOf_cons (gcF_holds (fn1_holds (Di .u8) (pattern_oneByte_ok hc)))
 (callOf_cons (gcF_holds (fn0_holds (pattern_anyByte_ok hc)))
 (callOf_cons (fn2_holds (Di .i64) Dv (pattern_over_ok hc))
 (callOf_cons (fn1_holds Dv (pattern_inRow_ok hc))
 (callOf_cons (gcF_holds (fn1_holds Ds (pattern_Parse_ok hc)))
 (callOf_cons (fn3_holds Dv Dv Dv (pattern_Parse_1_ok hc))
 (callOf_cons (fn1_holds Dv (pattern_reader_pattern_ok hc))
 (callOf_cons (fn2_holds Dv Ds (pattern_reader_word_ok hc))
 (callOf_cons (gcF_holds (fn1_holds Ds (pattern_Quote_ok hc)))
 (callOf_cons (fn2_holds Dv (Di .u8) (pattern_writeForm_ok hc))
 (callOf_cons (fn2_holds Dv Ds (strings_Builder_WriteString_ok hc))
 (callOf_cons (gcF_holds (fn1_holds Da (pattern_Print_ok hc)))
 (callOf_cons (gcF_holds (fn1_holds (Di .i64) (law09_long_ok hc)))
 callOf_nil)))))))))))))))))))))))))))))))))))))))))))))))))))))
noncomputable def world (n d : Nat) : CallF := iterW (worldF n) d
theorem world_ok (n d : Nat) : SaysAll Try.prog (world n d) := iterW_ok (worldF_ok n) d
theorem w_ibF (n d : Nat) (args : List AV) (h : AHeap) : world n (d + 1) 87 args h = ibF args h := by kernel_rfl
theorem w_pattern_guard (n d : Nat) (t0 : AV) (h : AHeap) : world n (d + 1) 35 [t0] h = pattern_guard (world n d) n t0 h :=
 Eq.trans (b := fn1 Dv (pattern_guard (world n d) n) [t0] h) (by kernel_rfl) (fn1_eq Dv _ t0 h)
theorem w_pattern_reader_quoted (n d : Nat) (t0 : AV) (t1 : Int) (h : AHeap) : world n (d + 1) 37 [t0, .int .i64 t1] h = pattern_reader_quoted (world n d) n t0 t1 h :=
 Eq.trans (b := fn2 Dv (Di .i64) (pattern_reader_quoted (world n d) n) [t0, .int .i64 t1] h) (by kernel_rfl) (fn2_eq Dv (Di .i64) _ t0 t1 h)
theorem w_pattern_reader_take (n d : Nat) (t0 : AV) (t1 : Int) (h : AHeap) : world n (d + 1) 54 [t0, .int .u8 t1] h = pattern_reader_take (world n d) n t0 t1 h :=
 Eq.trans (b := fn2 Dv (Di .u8) (pattern_reader_take (world n d) n) [t0, .int .u8 t1] h) (by kernel_rfl) (fn2_eq Dv (Di .u8) _ t0 t1 h)
theorem w_pattern_reader_skips (n d : Nat) (t0 : AV) (t1 : Int) (h : AHeap) : world n (d + 1) 55 [t0, .int .u8 t1] h = pattern_reader_skips (world n d) n t0 t1 h :=
 Eq.trans (b := fn2 Dv (Di .u8) (pattern_reader_skips (world n d) n) [t0, .int .u8 t1] h) (by kernel_rfl) (fn2_eq Dv (Di .u8) _ t0 t1 h)
theorem w_pattern_reader_sees (n d : Nat) (t0 : AV) (t1 : Int) (h : AHeap) : world n (d + 1) 68 [t0, .int .u8 t1] h = pattern_reader_sees (world n d) n t0 t1 h :=
 Eq.trans (b := fn2 Dv (Di .u8) (pattern_reader_sees (world n d) n) [t0, .int .u8 t1] h) (by kernel_rfl) (fn2_eq Dv (Di .u8) _ t0 t1 h)
theorem w_pattern_reader_ended (n d : Nat) (t0 : AV) (h : AHeap) : world n (d + 1) 74 [t0] h = pattern_reader_ended (world n d) n t0 h :=
 Eq.trans (b := fn1 Dv (pattern_reader_ended (world n d) n) [t0] h) (by kernel_rfl) (fn1_eq Dv _ t0 h)
theorem w_pattern_reader_end (n d : Nat) (t0 : AV) (h : AHeap) : world n (d + 1) 62 [t0] h = pattern_reader_end (world n d) n t0 h :=
 Eq.trans (b := fn1 Dv (pattern_reader_end (world n d) n) [t0] h) (by kernel_rfl) (fn1_eq Dv _ t0 h)
theorem w_pattern_reader_form (n d : Nat) (t0 : AV) (h : AHeap) : world n (d + 1) 58 [t0] h = pattern_reader_form (world n d) n t0 h :=
 Eq.trans (b := fn1 Dv (pattern_reader_form (world n d) n) [t0] h) (by kernel_rfl) (fn1_eq Dv _ t0 h)
theorem w_pattern_reader_next (n d : Nat) (t0 : AV) (h : AHeap) : world n (d + 1) 71 [t0] h = pattern_reader_next (world n d) n t0 h :=
 Eq.trans (b := fn1 Dv (pattern_reader_next (world n d) n) [t0] h) (by kernel_rfl) (fn1_eq Dv _ t0 h)
theorem w_pattern_reader_refuseLast (n d : Nat) (t0 : AV) (h : AHeap) : world n (d + 1) 72 [t0] h = pattern_reader_refuseLast (world n d) n t0 h :=
 Eq.trans (b := fn1 Dv (pattern_reader_refuseLast (world n d) n) [t0] h) (by kernel_rfl) (fn1_eq Dv _ t0 h)
theorem w_pattern_refuse (n d : Nat) (t0 : Int) (t1 : Int) (h : AHeap) : world n (d + 1) 57 [.int .i64 t0, .int .i64 t1] h = gcR h (pattern_refuse (world n d) n t0 t1 h) :=
 Eq.trans (b := gcR h (fn2 (Di .i64) (Di .i64) (pattern_refuse (world n d) n) [.int .i64 t0, .int .i64 t1] h)) (by kernel_rfl) (congrArg (gcR h) (fn2_eq (Di .i64) (Di .i64) _ t0 t1 h))
theorem w_pattern_reader_twoDigits (n d : Nat) (t0 : AV) (h : AHeap) : world n (d + 1) 73 [t0] h = pattern_reader_twoDigits (world n d) n t0 h :=
 Eq.trans (b := fn1 Dv (pattern_reader_twoDigits (world n d) n) [t0] h) (by kernel_rfl) (fn1_eq Dv _ t0 h)
theorem w_pattern_reader_digit (n d : Nat) (t0 : AV) (h : AHeap) : world n (d + 1) 81 [t0] h = pattern_reader_digit (world n d) n t0 h :=
 Eq.trans (b := fn1 Dv (pattern_reader_digit (world n d) n) [t0] h) (by kernel_rfl) (fn1_eq Dv _ t0 h)
theorem w_pattern_mayBegin (n d : Nat) (t0 : Int) (h : AHeap) : world n (d + 1) 82 [.int .u8 t0] h = gcR h (pattern_mayBegin (world n d) n t0 h) :=
 Eq.trans (b := gcR h (fn1 (Di .u8) (pattern_mayBegin (world n d) n) [.int .u8 t0] h)) (by kernel_rfl) (congrArg (gcR h) (fn1_eq (Di .u8) _ t0 h))
theorem w_pattern_byDigits (n d : Nat) (t0 : Int) (h : AHeap) : world n (d + 1) 83 [.int .u8 t0] h = gcR h (pattern_byDigits (world n d) n t0 h) :=
 Eq.trans (b := gcR h (fn1 (Di .u8) (pattern_byDigits (world n d) n) [.int .u8 t0] h)) (by kernel_rfl) (congrArg (gcR h) (fn1_eq (Di .u8) _ t0 h))
theorem w_pattern_short (n d : Nat) (t0 : Int) (h : AHeap) : world n (d + 1) 50 [.int .u8 t0] h = gcR h (pattern_short (world n d) n t0 h) :=
 Eq.trans (b := gcR h (fn1 (Di .u8) (pattern_short (world n d) n) [.int .u8 t0] h)) (by kernel_rfl) (congrArg (gcR h) (fn1_eq (Di .u8) _ t0 h))
theorem w_pattern_plain (n d : Nat) (t0 : Int) (h : AHeap) : world n (d + 1) 51 [.int .u8 t0] h = gcR h (pattern_plain (world n d) n t0 h) :=
 Eq.trans (b := gcR h (fn1 (Di .u8) (pattern_plain (world n d) n) [.int .u8 t0] h)) (by kernel_rfl) (congrArg (gcR h) (fn1_eq (Di .u8) _ t0 h))
theorem w_strings_Builder_WriteByte (n d : Nat) (t0 : AV) (t1 : Int) (h : AHeap) : world n (d + 1) 29 [t0, .int .u8 t1] h = strings_Builder_WriteByte (world n d) n t0 t1 h :=
 Eq.trans (b := fn2 Dv (Di .u8) (strings_Builder_WriteByte (world n d) n) [t0, .int .u8 t1] h) (by kernel_rfl) (fn2_eq Dv (Di .u8) _ t0 t1 h)
theorem w_strings_Builder_Len (n d : Nat) (t0 : AV) (h : AHeap) : world n (d + 1) 56 [t0] h = strings_Builder_Len (world n d) n t0 h :=
 Eq.trans (b := fn1 Dv (strings_Builder_Len (world n d) n) [t0] h) (by kernel_rfl) (fn1_eq Dv _ t0 h)
theorem w_strings_Builder_String (n d : Nat) (t0 : AV) (h : AHeap) : world n (d + 1) 31 [t0] h = strings_Builder_String (world n d) n t0 h :=
 Eq.trans (b := fn1 Dv (strings_Builder_String (world n d) n) [t0] h) (by kernel_rfl) (fn1_eq Dv _ t0 h)
theorem w_strings_Builder_copyCheck (n d : Nat) (t0 : AV) (h : AHeap) : world n (d + 1) 49 [t0] h = strings_Builder_copyCheck (world n d) n t0 h :=
 Eq.trans (b := fn1 Dv (strings_Builder_copyCheck (world n d) n) [t0] h) (by kernel_rfl) (fn1_eq Dv _ t0 h)
theorem w_pattern_Unquote (n d : Nat) (t0 : Bytes) (h : AHeap) : world n (d + 1) 16 [strA t0] h = gcR h (pattern_Unquote (world n d) n t0 h) :=
 Eq.trans (b := gcR h (fn1 Ds (pattern_Unquote (world n d) n) [strA t0] h)) (by kernel_rfl) (congrArg (gcR h) (fn1_eq Ds _ t0 h))
theorem w_pattern_Quoted (n d : Nat) (t0 : Bytes) (t1 : Int) (h : AHeap) : world n (d + 1) 19 [strA t0, .int .i64 t1] h = gcR h (pattern_Quoted (world n d) n t0 t1 h) :=
 Eq.trans (b := gcR h (fn2 Ds (Di .i64) (pattern_Quoted (world n d) n) [strA t0, .int .i64 t1] h)) (by kernel_rfl) (congrArg (gcR h) (fn2_eq Ds (Di .i64) _ t0 t1 h))
theorem w_pattern_Quoted_1 (n d : Nat) (t0 : AV) (t1 : AV) (t2 : AV) (h : AHeap) : world n (d + 1) 36 [t0, t1, t2] h = pattern_Quoted_1 (world n d) n t0 t1 t2 h :=
 Eq.trans (b := fn3 Dv Dv Dv (pattern_Quoted_1 (world n d) n) [t0, t1, t2] h) (by kernel_rfl) (fn3_eq Dv Dv Dv _ t0 t1 t2 h)
theorem w_pattern_Tree (n d : Nat) (t0 : List AV) (h : AHeap) : world n (d + 1) 21 [.agg t0] h = gcR h (pattern_Tree (world n d) n t0 h) :=
 Eq.trans (b := gcR h (fn1 Da (pattern_Tree (world n d) n) [.agg t0] h)) (by kernel_rfl) (congrArg (gcR h) (fn1_eq Da _ t0 h))
theorem w_pattern_Tree_1 (n d : Nat) (t0 : AV) (t1 : AV) (t2 : AV) (h : AHeap) : world n (d + 1) 39 [t0, t1, t2] h = pattern_Tree_1 (world n d) n t0 t1 t2 h :=
 Eq.trans (b := fn3 Dv Dv Dv (pattern_Tree_1 (world n d) n) [t0, t1, t2] h) (by kernel_rfl) (fn3_eq Dv Dv Dv _ t0 t1 t2 h)
theorem w_pattern_reader_tree (n d : Nat) (t0 : AV) (t1 : Int) (h : AHeap) : world n (d + 1) 40 [t0, .int .i64 t1] h = pattern_reader_tree (world n d) n t0 t1 h :=
 Eq.trans (b := fn2 Dv (Di .i64) (pattern_reader_tree (world n d) n) [t0, .int .i64 t1] h) (by kernel_rfl) (fn2_eq Dv (Di .i64) _ t0 t1 h)
theorem w_pattern_reader_row (n d : Nat) (t0 : AV) (t1 : AV) (h : AHeap) : world n (d + 1) 59 [t0, t1] h = pattern_reader_row (world n d) n t0 t1 h :=
 Eq.trans (b := fn2 Dv Dv (pattern_reader_row (world n d) n) [t0, t1] h) (by kernel_rfl) (fn2_eq Dv Dv _ t0 t1 h)
theorem w_pattern_reader_literalPart (n d : Nat) (t0 : AV) (h : AHeap) : world n (d + 1) 63 [t0] h = pattern_reader_literalPart (world n d) n t0 h :=
 Eq.trans (b := fn1 Dv (pattern_reader_literalPart (world n d) n) [t0] h) (by kernel_rfl) (fn1_eq Dv _ t0 h)
theorem w_pattern_reader_globPart (n d : Nat) (t0 : AV) (h : AHeap) : world n (d + 1) 60 [t0] h = pattern_reader_globPart (world n d) n t0 h :=
 Eq.trans (b := fn1 Dv (pattern_reader_globPart (world n d) n) [t0] h) (by kernel_rfl) (fn1_eq Dv _ t0 h)
theorem w_pattern_reader_alternatives (n d : Nat) (t0 : AV) (h : AHeap) : world n (d + 1) 61 [t0] h = pattern_reader_alternatives (world n d) n t0 h :=
 Eq.trans (b := fn1 Dv (pattern_reader_alternatives (world n d) n) [t0] h) (by kernel_rfl) (fn1_eq Dv _ t0 h)
theorem w_pattern_reader_regularRow (n d : Nat) (t0 : AV) (h : AHeap) : world n (d + 1) 79 [t0] h = pattern_reader_regularRow (world n d) n t0 h :=
 Eq.trans (b := fn1 Dv (pattern_reader_regularRow (world n d) n) [t0] h) (by kernel_rfl) (fn1_eq Dv _ t0 h)
theorem w_pattern_reader_regularPart (n d : Nat) (t0 : AV) (h : AHeap) : world n (d + 1) 85 [t0] h = pattern_reader_regularPart (world n d) n t0 h :=
 Eq.trans (b := fn1 Dv (pattern_reader_regularPart (world n d) n) [t0] h) (by kernel_rfl) (fn1_eq Dv _ t0 h)
theorem w_pattern_reader_atom (n d : Nat) (t0 : AV) (h : AHeap) : world n (d + 1) 88 [t0] h = pattern_reader_atom (world n d) n t0 h :=
 Eq.trans (b := fn1 Dv (pattern_reader_atom (world n d) n) [t0] h) (by kernel_rfl) (fn1_eq Dv _ t0 h)
theorem w_pattern_reader_members (n d : Nat) (t0 : AV) (h : AHeap) : world n (d + 1) 91 [t0] h = pattern_reader_members (world n d) n t0 h :=
 Eq.trans (b := fn1 Dv (pattern_reader_members (world n d) n) [t0] h) (by kernel_rfl) (fn1_eq Dv _ t0 h)
theorem w_pattern_reader_member (n d : Nat) (t0 : AV) (t1 : AV) (h : AHeap) : world n (d + 1) 93 [t0, t1] h = pattern_reader_member (world n d) n t0 t1 h :=
 Eq.trans (b := fn2 Dv Dv (pattern_reader_member (world n d) n) [t0, t1] h) (by kernel_rfl) (fn2_eq Dv Dv _ t0 t1 h)
theorem w_pattern_reader_memberByte (n d : Nat) (t0 : AV) (h : AHeap) : world n (d + 1) 94 [t0] h = pattern_reader_memberByte (world n d) n t0 h :=
 Eq.trans (b := fn1 Dv (pattern_reader_memberByte (world n d) n) [t0] h) (by kernel_rfl) (fn1_eq Dv _ t0 h)
theorem w_pattern_addSpan (n d : Nat) (t0 : AV) (t1 : Int) (t2 : Int) (h : AHeap) : world n (d + 1) 84 [t0, .int .u8 t1, .int .u8 t2] h = pattern_addSpan (world n d) n t0 t1 t2 h :=
 Eq.trans (b := fn3 Dv (Di .u8) (Di .u8) (pattern_addSpan (world n d) n) [t0, .int .u8 t1, .int .u8 t2] h) (by kernel_rfl) (fn3_eq Dv (Di .u8) (Di .u8) _ t0 t1 t2 h)
theorem w_pattern_oneByte (n d : Nat) (t0 : Int) (h : AHeap) : world n (d + 1) 78 [.int .u8 t0] h = gcR h (pattern_oneByte (world n d) n t0 h) :=
 Eq.trans (b := gcR h (fn1 (Di .u8) (pattern_oneByte (world n d) n) [.int .u8 t0] h)) (by kernel_rfl) (congrArg (gcR h) (fn1_eq (Di .u8) _ t0 h))
theorem w_pattern_anyByte (n d : Nat)  (h : AHeap) : world n (d + 1) 77 [] h = gcR h (pattern_anyByte (world n d) n  h) :=
 Eq.trans (b := gcR h (fn0 (pattern_anyByte (world n d) n) [] h)) (by kernel_rfl) (congrArg (gcR h) (fn0_eq  _  h))
theorem w_pattern_over (n d : Nat) (t0 : Int) (t1 : AV) (h : AHeap) : world n (d + 1) 76 [.int .i64 t0, t1] h = pattern_over (world n d) n t0 t1 h :=
 Eq.trans (b := fn2 (Di .i64) Dv (pattern_over (world n d) n) [.int .i64 t0, t1] h) (by kernel_rfl) (fn2_eq (Di .i64) Dv _ t0 t1 h)
theorem w_pattern_inRow (n d : Nat) (t0 : AV) (h : AHeap) : world n (d + 1) 75 [t0] h = pattern_inRow (world n d) n t0 h :=
 Eq.trans (b := fn1 Dv (pattern_inRow (world n d) n) [t0] h) (by kernel_rfl) (fn1_eq Dv _ t0 h)
theorem w_pattern_Parse (n d : Nat) (t0 : Bytes) (h : AHeap) : world n (d + 1) 24 [strA t0] h = gcR h (pattern_Parse (world n d) n t0 h) :=
 Eq.trans (b := gcR h (fn1 Ds (pattern_Parse (world n d) n) [strA t0] h)) (by kernel_rfl) (congrArg (gcR h) (fn1_eq Ds _ t0 h))
theorem w_pattern_Parse_1 (n d : Nat) (t0 : AV) (t1 : AV) (t2 : AV) (h : AHeap) : world n (d + 1) 44 [t0, t1, t2] h = pattern_Parse_1 (world n d) n t0 t1 t2 h :=
 Eq.trans (b := fn3 Dv Dv Dv (pattern_Parse_1 (world n d) n) [t0, t1, t2] h) (by kernel_rfl) (fn3_eq Dv Dv Dv _ t0 t1 t2 h)
theorem w_pattern_reader_pattern (n d : Nat) (t0 : AV) (h : AHeap) : world n (d + 1) 45 [t0] h = pattern_reader_pattern (world n d) n t0 h :=
 Eq.trans (b := fn1 Dv (pattern_reader_pattern (world n d) n) [t0] h) (by kernel_rfl) (fn1_eq Dv _ t0 h)
theorem w_pattern_reader_word (n d : Nat) (t0 : AV) (t1 : Bytes) (h : AHeap) : world n (d + 1) 69 [t0, strA t1] h = pattern_reader_word (world n d) n t0 t1 h :=
 Eq.trans (b := fn2 Dv Ds (pattern_reader_word (world n d) n) [t0, strA t1] h) (by kernel_rfl) (fn2_eq Dv Ds _ t0 t1 h)
theorem w_pattern_Quote (n d : Nat) (t0 : Bytes) (h : AHeap) : world n (d + 1) 15 [strA t0] h = gcR h (pattern_Quote (world n d) n t0 h) :=
 Eq.trans (b := gcR h (fn1 Ds (pattern_Quote (world n d) n) [strA t0] h)) (by kernel_rfl) (congrArg (gcR h) (fn1_eq Ds _ t0 h))
theorem w_pattern_writeForm (n d : Nat) (t0 : AV) (t1 : Int) (h : AHeap) : world n (d + 1) 30 [t0, .int .u8 t1] h = pattern_writeForm (world n d) n t0 t1 h :=
 Eq.trans (b := fn2 Dv (Di .u8) (pattern_writeForm (world n d) n) [t0, .int .u8 t1] h) (by kernel_rfl) (fn2_eq Dv (Di .u8) _ t0 t1 h)
theorem w_strings_Builder_WriteString (n d : Nat) (t0 : AV) (t1 : Bytes) (h : AHeap) : world n (d + 1) 52 [t0, strA t1] h = strings_Builder_WriteString (world n d) n t0 t1 h :=
 Eq.trans (b := fn2 Dv Ds (strings_Builder_WriteString (world n d) n) [t0, strA t1] h) (by kernel_rfl) (fn2_eq Dv Ds _ t0 t1 h)
theorem w_pattern_Print (n d : Nat) (t0 : List AV) (h : AHeap) : world n (d + 1) 26 [.agg t0] h = gcR h (pattern_Print (world n d) n t0 h) :=
 Eq.trans (b := gcR h (fn1 Da (pattern_Print (world n d) n) [.agg t0] h)) (by kernel_rfl) (congrArg (gcR h) (fn1_eq Da _ t0 h))
theorem w_law09_long (n d : Nat) (t0 : Int) (h : AHeap) : world n (d + 1) 14 [.int .i64 t0] h = gcR h (law09_long (world n d) n t0 h) :=
 Eq.trans (b := gcR h (fn1 (Di .i64) (law09_long (world n d) n) [.int .i64 t0] h)) (by kernel_rfl) (congrArg (gcR h) (fn1_eq (Di .i64) _ t0 h))
section
variable {n d p : Nat} {h : AHeap} {u : Bytes} {Q : ARes → AHeap → Prop}
end
theorem Wp.panK {Q : ARes → AHeap → Prop} {h : AHeap} {t : TypeId} {v : AV} (hq : Q (.panic (.ifc t v)) h) : Wp (panK (.ifc t v) h) Q := ⟨_, _, rfl, hq⟩
noncomputable def rdP (u : Bytes) (p : Nat) : List AV := [strA u, .int .i64 (p : Int)]
abbrev Rd (h : AHeap) (b : Nat) (u : Bytes) (p : Nat) : Prop := RowH h b 70 (rdP u p)
def PanA (e : Int) (q : Nat) : AV := .ifc 91 (.agg [.int .i64 e, .int .i64 (q : Int)])
theorem bldWrong (e q : Int) : bldS Try.prog 91 [(0, .agg [.int .i64 e, .int .i64 q])] = some [.int .i64 e, .int .i64 q] := by kernel_rfl
def Step (b : Nat) (u : Bytes) (h : AHeap) (x : R) : Except (Int × Nat) (AV × Nat) → Prop
 | .ok (v, p) => ∃ h', x = some (.ret v, h') ∧ Rd h' b u p ∧ Tch [b] h h'
 | .error (e, q) => ∃ h' p, x = some (.panic (PanA e q), h') ∧ Rd h' b u p ∧ Tch [b] h h'
section
variable {n d b p : Nat} {h : AHeap} {u : Bytes} {Q : ARes → AHeap → Prop}
theorem ended_r (k : Rd h b u p) : world n (d + 1) 74 [.ptr b 0] h = some (.ret (.bool (decide (p = u.length))), h) := by
 apply Wp.eq
 rw [w_pattern_reader_ended]
 unfold pattern_reader_ended
 have ll := lenS_nat u
 repeat (first | (with_reducible refine Wp.lett ?_) | ((with_reducible apply Wp.obind); first | (with_reducible first | exact avInt_int _ _ | exact avStr_str _ | exact nilC_ptr _ _ | exact fldP_ptr _ _ _) | ((with_reducible apply RowH.cell'); (with_reducible assumption); rfl)))
 refine Wp.ret ⟨?_, rfl⟩
 by_cases hp : p = u.length
 ·rw [beq_t (by omega), decide_eq_true hp]
 ·rw [beq_f (by omega), decide_eq_false hp]
theorem refuse_r (e : Int) (q : Nat) : world n (d + 1) 57 [.int .i64 e, .int .i64 (q : Int)] h = some (.panic (PanA e q), h) := by
 rw [w_pattern_refuse]
 refine (congrArg (gcR h) ?_).trans gcR_self
 unfold pattern_refuse
 rw [bldWrong, obind_val]
 rfl
theorem refuseLast_r (k : Rd h b u (p + 1)) (hp : p + 1 ≤ u.length) (hu : u.length ≤ 1000000) : world n (d + 2) 72 [.ptr b 0] h = some (.panic (PanA 6 p), h) := by
 apply Wp.eq
 rw [w_pattern_reader_refuseLast]
 unfold pattern_reader_refuseLast
 have k0 : RowH h b 70 [strA u, .int .i64 ((p + 1 : Nat) : Int)] := k
 clear k
 have hr := refuse_r (n := n) (d := d) (h := h) 6 p
 rw [show (p : Int) = ((p + 1 : Nat) : Int) - 1 by omega] at hr
 repeat (first | ((with_reducible refine Wp.lettw ?_ ?_ ?_); omega; omega) | ((with_reducible apply Wp.obind); first | (with_reducible first | exact avInt_int _ _ | exact nilC_ptr _ _ | exact fldP_ptr _ _ _) | ((with_reducible apply RowH.cell'); (with_reducible assumption); rfl)))
 exact Wp.callP hr ⟨rfl, rfl⟩
theorem sees_r (k : Rd h b u p) (hp : p ≤ u.length) (c : Nat) : world n (d + 2) 68 [.ptr b 0, .int .u8 (c : Int)] h = some (.ret (.bool (decide (at? u p = some c))), h) := by
 apply Wp.eq
 rw [w_pattern_reader_sees]
 unfold pattern_reader_sees
 have he := ended_r (n := n) (d := d) k
 by_cases hl : p = u.length
 ·rw [decide_eq_true hl] at he
  rw [at?_ge (by omega)]
  repeat (first | (with_reducible refine Wp.join1 (fun _ _ => ?_)) | (with_reducible refine Wp.lett ?_) | ((with_reducible apply Wp.obind); (with_reducible exact avBool_bool _)) | ((with_reducible refine Wp.iff ?_ ?_); (with_reducible exact Bool.not_true)) | ((with_reducible apply Wp.callN); (with_reducible assumption)) | (with_reducible refine Wp.go1 (by assumption) ?_))
  exact Wp.ret ⟨rfl, rfl⟩
 ·rw [decide_eq_false hl] at he
  have hx := idxS_nat (l := u) (i := p) (by omega)
  rw [at?_lt (by omega)]
  repeat (first | (with_reducible refine Wp.join1 (fun _ _ => ?_)) | (with_reducible refine Wp.lett ?_) | ((with_reducible apply Wp.obind); first | (with_reducible first | exact hx | exact avInt_int _ _ | exact avBool_bool _ | exact avStr_str _ | exact nilC_ptr _ _ | exact fldP_ptr _ _ _) | ((with_reducible apply RowH.cell'); (with_reducible assumption); rfl)) | ((with_reducible refine Wp.ift ?_ ?_); (with_reducible exact Bool.not_false)) | ((with_reducible apply Wp.callN); (with_reducible assumption)) | (with_reducible refine Wp.go1 (by assumption) ?_))
  refine Wp.ret ⟨?_, rfl⟩
  by_cases hc : (u[p]'(by omega)).toNat = c
  ·rw [beq_t (by omega), decide_eq_true (by rw [hc])]
  ·rw [beq_f (by omega), decide_eq_false (fun hh => hc (by simpa using hh))]
theorem skips_r (k : Rd h b u p) (hb : b < h.next) (hp : p ≤ u.length) (hu : u.length ≤ 1000000) (c : Nat) : Step b u h (world n (d + 3) 55 [.ptr b 0, .int .u8 (c : Int)] h) (.ok (.bool (decide (at? u p = some c)), if at? u p = some c then p + 1 else p)) := by
 apply Wp.ex
 rw [w_pattern_reader_skips]
 unfold pattern_reader_skips
 have hs := sees_r (n := n) (d := d) k hp c
 have Mx := Mem.one k hb
 by_cases hc : at? u p = some c
 ·rw [decide_eq_true hc] at hs ⊢
  rw [if_pos hc]
  repeat (first | ((with_reducible apply Wp.obind); (with_reducible first | exact avInt_int _ _ | exact avBool_bool _ | exact nilC_ptr _ _ | exact fldP_ptr _ _ _)) | ((with_reducible apply Wp.ld0 Mx); rfl) | ((with_reducible apply Wp.ms0 Mx); exact Nat.le_of_ble_eq_true rfl; rfl; intro _ Mz; clear Mx; have Mx := Mz; clear Mz) | ((with_reducible refine Wp.lettw ?_ ?_ ?_); omega; omega) | (with_reducible refine Wp.lett ?_) | ((with_reducible refine Wp.iff ?_ ?_); (with_reducible exact Bool.not_true)) | ((with_reducible apply Wp.callN); (with_reducible assumption)))
  have e : (rdP u p).set (0 + 1) (.int .i64 ((p : Int) + 1)) = rdP u (p + 1) := by
   rw [show (p : Int) + 1 = ((p + 1 : Nat) : Int) by omega]
   rfl
  rw [e] at Mx
  exact Wp.ret ⟨rfl, Mx.at0.1, Mx.tch⟩
 ·rw [decide_eq_false hc] at hs ⊢
  rw [if_neg hc]
  repeat (first | (with_reducible refine Wp.lett ?_) | ((with_reducible apply Wp.obind); (with_reducible exact avBool_bool _)) | ((with_reducible refine Wp.ift ?_ ?_); (with_reducible exact Bool.not_false)) | ((with_reducible apply Wp.callN); (with_reducible assumption)))
  exact Wp.ret ⟨rfl, k, Tch.refl _ _⟩
theorem next_r (k : Rd h b u p) (hb : b < h.next) (hp : p ≤ u.length) (hu : u.length ≤ 1000000) : Step b u h (world n (d + 2) 71 [.ptr b 0] h) (match at? u p with
  | some c => .ok (.int .u8 (c : Int), p + 1)
  | none => .error (6, p)) := by
 have he := ended_r (n := n) (d := d) k
 by_cases hl : p = u.length
 ·rw [at?_ge (by omega)]
  rw [decide_eq_true hl] at he
  refine ⟨h, p, ?_, k, Tch.refl _ _⟩
  have hr := refuse_r (n := n) (d := d) (h := h) 6 p
  have : Wp (world n (d + 2) 71 [.ptr b 0] h) fun r h' => r = .panic (PanA 6 p) ∧ h' = h := by
   rw [w_pattern_reader_next]
   unfold pattern_reader_next
   repeat (first | (with_reducible refine Wp.join0 (fun _ _ => ?_)) | ((with_reducible apply Wp.obind); first | (with_reducible first | exact avInt_int _ _ | exact avBool_bool _ | exact nilC_ptr _ _ | exact fldP_ptr _ _ _) | ((with_reducible apply RowH.cell'); (with_reducible assumption); rfl)) | ((with_reducible refine Wp.ift ?_ ?_); (with_reducible rfl)) | ((with_reducible first | apply Wp.callN | apply Wp.callK); (with_reducible assumption)))
   exact Wp.callP hr ⟨rfl, rfl⟩
  exact this.eq
 ·rw [decide_eq_false hl] at he
  rw [at?_lt (by omega)]
  show ∃ h', _ ∧ _
  apply Wp.ex
  rw [w_pattern_reader_next]
  unfold pattern_reader_next
  have Mx := Mem.one k hb
  have hx := idxS_nat (l := u) (i := p) (by omega)
  repeat (first | ((with_reducible apply Wp.obind); (with_reducible first | exact avInt_int _ _ | exact avBool_bool _ | exact avStr_str _ | exact nilC_ptr _ _ | exact fldP_ptr _ _ _)) | ((with_reducible apply Wp.ld0 Mx); rfl) | ((with_reducible apply Wp.ms0 Mx); exact Nat.le_of_ble_eq_true rfl; rfl; intro _ Mz; clear Mx; have Mx := Mz; clear Mz) | (with_reducible refine Wp.join0 (fun _ _ => ?_)) | ((with_reducible refine Wp.lettw ?_ ?_ ?_); omega; omega) | ((with_reducible refine Wp.iff ?_ ?_); (with_reducible rfl)) | ((with_reducible apply Wp.callN); (with_reducible assumption)) | (with_reducible refine Wp.go0 (by assumption) ?_))
  have e : (rdP u p).set (0 + 1) (.int .i64 ((p : Int) + 1)) = rdP u (p + 1) := by
   rw [show (p : Int) + 1 = ((p + 1 : Nat) : Int) by omega]
   rfl
  rw [e] at Mx
  have e2 : ((p : Int) + 1) - 1 = (p : Int) := by omega
  rw [e2]
  repeat (((with_reducible apply Wp.obind); (with_reducible exact hx)))
  exact Wp.ret ⟨rfl, Mx.at0.1, Mx.tch⟩
theorem plain_w (c : Nat) : world n (d + 1) 51 [.int .u8 (c : Int)] h = some (.ret (.bool (plainB c)), h) := by
 rw [w_pattern_plain]
 refine (congrArg (gcR h) ?_).trans gcR_self
 apply Wp.eq
 unfold pattern_plain plainB
 by_cases h1 : 32 ≤ c
 ·rw [decide_eq_true h1, Bool.true_and]
  repeat (first | (with_reducible refine Wp.join1 (fun _ _ => ?_)) | (with_reducible refine Wp.lett ?_) | ((with_reducible refine Wp.ift ?_ ?_); ((with_reducible apply decide_eq_true); omega)) | (with_reducible refine Wp.go1 (by assumption) ?_))
  refine Wp.ret ⟨?_, rfl⟩
  by_cases h2 : c ≤ 126
  ·rw [decide_eq_true h2, decide_eq_true (by omega)]
  ·rw [decide_eq_false h2, decide_eq_false (by omega)]
 ·rw [decide_eq_false h1, Bool.false_and]
  repeat (first | (with_reducible refine Wp.join1 (fun _ _ => ?_)) | (with_reducible refine Wp.lett ?_) | ((with_reducible refine Wp.iff ?_ ?_); ((with_reducible apply decide_eq_false); omega)) | (with_reducible refine Wp.go1 (by assumption) ?_))
  exact Wp.ret ⟨rfl, rfl⟩
theorem short_w (c : Nat) : world n (d + 1) 50 [.int .u8 (c : Int)] h = some (.ret (.int .u8 (shortB c : Int)), h) := by
 rw [w_pattern_short]
 refine (congrArg (gcR h) ?_).trans gcR_self
 apply Wp.eq
 unfold pattern_short shortB
 by_cases h1 : c = 34
 ·rw [if_pos (.inl h1)]
  repeat (first | (with_reducible refine Wp.join1 (fun _ _ => ?_)) | (with_reducible refine Wp.lett ?_) | ((with_reducible refine Wp.ift ?_ ?_); first | (with_reducible rfl) | ((with_reducible apply beq_t); omega)) | (with_reducible refine Wp.go1 (by assumption) ?_))
  exact Wp.ret ⟨rfl, rfl⟩
 by_cases h2 : c = 92
 ·rw [if_pos (.inr h2)]
  have q : ((c : Int) == 92) = true := beq_t (by omega)
  repeat (first | (with_reducible refine Wp.join1 (fun _ _ => ?_)) | (with_reducible refine Wp.lett ?_) | ((with_reducible refine Wp.ift ?_ ?_); (with_reducible assumption)) | ((with_reducible refine Wp.iff ?_ ?_); ((with_reducible apply beq_f); omega)) | (with_reducible refine Wp.go1 (by assumption) ?_))
  exact Wp.ret ⟨rfl, rfl⟩
 have q : ((c : Int) == 92) = false := beq_f (by omega)
 rw [if_neg (by omega)]
 by_cases h3 : c = 10
 ·rw [if_pos h3]
  repeat (first | (with_reducible refine Wp.join1 (fun _ _ => ?_)) | (with_reducible refine Wp.lett ?_) | ((with_reducible refine Wp.ift ?_ ?_); ((with_reducible apply beq_t); omega)) | ((with_reducible refine Wp.iff ?_ ?_); first | (with_reducible assumption) | ((with_reducible apply beq_f); omega)) | (with_reducible refine Wp.go1 (by assumption) ?_))
  exact Wp.ret ⟨rfl, rfl⟩
 rw [if_neg h3]
 by_cases h4 : c = 13
 ·rw [if_pos h4]
  repeat (first | (with_reducible refine Wp.join1 (fun _ _ => ?_)) | (with_reducible refine Wp.lett ?_) | ((with_reducible refine Wp.ift ?_ ?_); ((with_reducible apply beq_t); omega)) | ((with_reducible refine Wp.iff ?_ ?_); first | (with_reducible assumption) | ((with_reducible apply beq_f); omega)) | (with_reducible refine Wp.go1 (by assumption) ?_))
  exact Wp.ret ⟨rfl, rfl⟩
 rw [if_neg h4]
 by_cases h5 : c = 9
 ·rw [if_pos h5]
  repeat (first | (with_reducible refine Wp.join1 (fun _ _ => ?_)) | (with_reducible refine Wp.lett ?_) | ((with_reducible refine Wp.ift ?_ ?_); ((with_reducible apply beq_t); omega)) | ((with_reducible refine Wp.iff ?_ ?_); first | (with_reducible assumption) | ((with_reducible apply beq_f); omega)) | (with_reducible refine Wp.go1 (by assumption) ?_))
  exact Wp.ret ⟨rfl, rfl⟩
 rw [if_neg h5]
 repeat (first | (with_reducible refine Wp.join1 (fun _ _ => ?_)) | (with_reducible refine Wp.lett ?_) | ((with_reducible refine Wp.iff ?_ ?_); first | (with_reducible assumption) | ((with_reducible apply beq_f); omega)) | (with_reducible refine Wp.go1 (by assumption) ?_))
 exact Wp.ret ⟨rfl, rfl⟩
theorem byDigits_w (c : Nat) : world n (d + 2) 83 [.int .u8 (c : Int)] h = some (.ret (.bool (byD c)), h) := by
 rw [w_pattern_byDigits]
 refine (congrArg (gcR h) ?_).trans gcR_self
 apply Wp.eq
 unfold pattern_byDigits byD
 have e1 := short_w (n := n) (d := d) (h := h) c
 have e2 := plain_w (n := n) (d := d) (h := h) c
 by_cases h1 : shortB c = 0
 ·rw [decide_eq_true h1, Bool.true_and]
  repeat (first | (with_reducible refine Wp.join1 (fun _ _ => ?_)) | (with_reducible refine Wp.lett ?_) | ((with_reducible apply Wp.obind); (with_reducible first | exact avInt_int _ _ | exact avBool_bool _)) | ((with_reducible refine Wp.ift ?_ ?_); ((with_reducible apply beq_t); omega)) | ((with_reducible apply Wp.callN); (with_reducible assumption)) | (with_reducible refine Wp.go1 (by assumption) ?_))
  exact Wp.ret ⟨rfl, rfl⟩
 ·rw [decide_eq_false h1, Bool.false_and]
  repeat (first | (with_reducible refine Wp.join1 (fun _ _ => ?_)) | (with_reducible refine Wp.lett ?_) | ((with_reducible apply Wp.obind); (with_reducible exact avInt_int _ _)) | ((with_reducible refine Wp.iff ?_ ?_); ((with_reducible apply beq_f); omega)) | ((with_reducible apply Wp.callN); (with_reducible assumption)) | (with_reducible refine Wp.go1 (by assumption) ?_))
  exact Wp.ret ⟨rfl, rfl⟩
end
theorem Step.ok_of {b p : Nat} {u : Bytes} {h : AHeap} {x : R} {v : AV} (k : Wp x fun r h' => r = .ret v ∧ Rd h' b u p ∧ Tch [b] h h') : Step b u h x (.ok (v, p)) := k.ex
theorem Step.err_of {b q : Nat} {e : Int} {u : Bytes} {h : AHeap} {x : R} (k : Wp x fun r h' => r = .panic (PanA e q) ∧ ∃ p, Rd h' b u p ∧ Tch [b] h h') : Step b u h x (.error (e, q)) := by
 obtain ⟨_, h', e1, rfl, p, k1, k2⟩ := k
 exact ⟨h', p, e1, k1, k2⟩
theorem Wp.stepK {b : Nat} {u : Bytes} {h : AHeap} {x : R} {k : AV → AHeap → R} {Q : ARes → AHeap → Prop} {v : AV} {p : Nat} (hx : Step b u h x (.ok (v, p))) (hk : ∀ h', Rd h' b u p → Tch [b] h h' → Wp (k v h') Q) : Wp (callK x k) Q := by
 obtain ⟨h', e, k1, k2⟩ := hx
 exact Wp.callK e (hk h' k1 k2)
theorem Wp.stepN {b : Nat} {u : Bytes} {h : AHeap} {x : R} {k : AV → AHeap → R} {Q : ARes → AHeap → Prop} {v : AV} {p : Nat} (hx : Step b u h x (.ok (v, p))) (hk : ∀ h', Rd h' b u p → Tch [b] h h' → Wp (k v h') Q) : Wp (callN x k) Q := by
 obtain ⟨h', e, k1, k2⟩ := hx
 exact Wp.callN e (hk h' k1 k2)
theorem Wp.stepE {b q : Nat} {e : Int} {u : Bytes} {h : AHeap} {x : R} {k : AV → AHeap → R} {Q : ARes → AHeap → Prop} (hx : Step b u h x (.error (e, q))) (hk : ∀ h' p, Rd h' b u p → Tch [b] h h' → Q (.panic (PanA e q)) h') : Wp (callK x k) Q := by
 obtain ⟨h', p, e1, k1, k2⟩ := hx
 exact Wp.callP e1 (hk h' p k1 k2)
theorem lt_tch {S : List Nat} {h h' : AHeap} {b : Nat} (t : Tch S h h') (hb : b < h.next) : b < h'.next := Nat.lt_of_lt_of_le hb t.1
theorem or4 {v c : Nat} (h1 : v < 16) (h2 : c < 16) : orI .u8 ((v : Int) * 16) (c : Int) = ((v * 16 + c : Nat) : Int) := by
 show IntKind.u8.wrap (((BitVec.ofInt 8 ((v : Int) * 16)) ||| (BitVec.ofInt 8 (c : Int))).toNat : Int) = _
 have e1 : (BitVec.ofInt 8 ((v : Int) * 16)) = BitVec.ofNat 8 (v * 16) := by
  rw [show ((v : Int) * 16) = ((v * 16 : Nat) : Int) by omega]
  exact BitVec.ofInt_natCast ..
 have e2 : (BitVec.ofInt 8 (c : Int)) = BitVec.ofNat 8 c := BitVec.ofInt_natCast ..
 rw [e1, e2, BitVec.toNat_or, BitVec.toNat_ofNat, BitVec.toNat_ofNat, Nat.mod_eq_of_lt (by omega), Nat.mod_eq_of_lt (by omega)]
 have e3 : v * 16 ||| c = v * 16 + c := by
  have := Nat.shiftLeft_add_eq_or_of_lt (i := 4) (b := c) (by omega) v
  rw [Nat.shiftLeft_eq] at this
  exact this.symm
 rw [e3, wrap_u8_mod, Int.emod_eq_of_lt (by omega) (by omega)]
theorem shl4 {v : Nat} (h1 : v < 16) : shlI .u8 (v : Int) 4 = some ((v : Int) * 16) := by
 have : shlI .u8 (v : Int) 4 = some (IntKind.u8.wrap ((v : Int) * 16)) := rfl
 rw [this, wrap_u8_mod, Int.emod_eq_of_lt (by omega) (by omega)]
theorem mayB_any : ∀ hi : Fin 16, mayB hi.val = (List.range 16).any fun lo => byD (hi.val * 16 + lo) := by decide
section
variable {n d b p : Nat} {h : AHeap} {u : Bytes} {Q : ARes → AHeap → Prop}
theorem mb_loop {hi : Nat} (hh : hi < 16) {k5 : AHeap → R} (hk : k5 = fun h_6 => some (.ret (.bool false), h_6)) : ∀ (f i : Nat), 16 < f + i → i ≤ 16 → (∀ j, j < i → byD (hi * 16 + j) = false) → Wp (pattern_mayBegin_L0 (world n (d + 2)) ((hi : Int) * 16) k5 f (i : Int) h) fun r h' => r = .ret (.bool (mayB hi)) ∧ h' = h
 | 0, i, h1, h2, _ => by omega
 | f + 1, i, h1, h2, hj => by
  rw [pattern_mayBegin_L0_s]
  unfold pattern_mayBegin_L0b
  have ha := mayB_any ⟨hi, hh⟩
  by_cases hi16 : i < 16
  ·have hb := byDigits_w (n := n) (d := d) (h := h) (hi * 16 + i)
   rw [← or4 hh hi16] at hb
   cases hd : byD (hi * 16 + i) with
   | true =>
    rw [hd] at hb
    repeat (first | ((with_reducible refine Wp.lettu8 ?_ ?_ ?_); omega; omega) | (with_reducible refine Wp.lett ?_) | ((with_reducible apply Wp.obind); (with_reducible exact avBool_bool _)) | ((with_reducible refine Wp.ift ?_ ?_); first | (with_reducible rfl) | ((with_reducible apply decide_eq_true); omega)) | ((with_reducible apply Wp.callN); (with_reducible assumption)))
    have : mayB hi = true := by
     show mayB (⟨hi, hh⟩ : Fin 16).val = true
     rw [ha, List.any_eq_true]
     exact ⟨i, List.mem_range.2 hi16, hd⟩
    rw [this]
    exact Wp.ret ⟨rfl, rfl⟩
   | false =>
    rw [hd] at hb
    repeat (first | ((with_reducible first | refine Wp.lettw ?_ ?_ ?_ | refine Wp.lettu8 ?_ ?_ ?_); omega; omega) | (with_reducible refine Wp.lett ?_) | ((with_reducible apply Wp.obind); (with_reducible exact avBool_bool _)) | ((with_reducible refine Wp.ift ?_ ?_); ((with_reducible apply decide_eq_true); omega)) | ((with_reducible refine Wp.iff ?_ ?_); (with_reducible rfl)) | ((with_reducible apply Wp.callN); (with_reducible assumption)))
    rw [show (i : Int) + 1 = ((i + 1 : Nat) : Int) by omega]
    refine mb_loop hh hk f (i + 1) (by omega) (by omega) fun j hj2 => ?_
    by_cases hji : j < i
    ·exact hj j hji
    ·have : j = i := by omega
     rw [this]
     exact hd
  ·repeat (first | (with_reducible refine Wp.lett ?_) | ((with_reducible refine Wp.iff ?_ ?_); ((with_reducible apply decide_eq_false); omega)) | (with_reducible refine Wp.go0 (by assumption) ?_))
   have : mayB hi = false := by
    show mayB (⟨hi, hh⟩ : Fin 16).val = false
    rw [ha, List.any_eq_false]
    intro j hjm
    rw [hj j (by have := List.mem_range.1 hjm; omega)]
    simp
   rw [this]
   exact Wp.ret ⟨rfl, rfl⟩
theorem mayBegin_w (hn : 16 < n) {hi : Nat} (hh : hi < 16) : world n (d + 3) 82 [.int .u8 ((hi : Int) * 16)] h = some (.ret (.bool (mayB hi)), h) := by
 rw [w_pattern_mayBegin]
 refine (congrArg (gcR h) ?_).trans gcR_self
 apply Wp.eq
 unfold pattern_mayBegin
 repeat ((with_reducible refine Wp.join0 (fun _ _ => ?_)))
 rename_i k5 hk5
 exact mb_loop hh hk5 n 0 (by omega) (by omega) (fun j hj => absurd hj (by omega))
theorem digit_r (k : Rd h b u p) (hb : b < h.next) (hp : p ≤ u.length) (hu : u.length ≤ 1000000) : Step b u h (world n (d + 3) 81 [.ptr b 0] h) (match (at? u p).bind hexV with
  | some v => .ok (.int .u8 (v : Int), p + 1)
  | none => .error (6, p)) := by
 have hnx := next_r (n := n) (d := d) k hb hp hu
 cases ha : at? u p with
 | none =>
  rw [ha] at hnx
  refine Step.err_of ?_
  rw [w_pattern_reader_digit]
  unfold pattern_reader_digit
  exact Wp.stepE hnx fun h' p' k1 k2 => ⟨rfl, p', k1, k2⟩
 | some c =>
  rw [ha] at hnx
  obtain ⟨hpl, hpc⟩ := at?_some ha
  have hc := (u[p]).toNat_lt
  have hib : ∀ H, world n (d + 2) 87 [strA digitsB, .int .u8 (c : Int)] H = some (.ret (.int .i64 (ibV c)), H) := fun H => (w_ibF n (d + 1) _ H).trans (ibF_eq (by omega) H)
  show Step b u h _ (match hexV c with | some v => _ | none => _)
  cases hv : hexV c with
  | none =>
   have hi : ibV c = -1 := by unfold ibV; rw [hv]
   refine Step.err_of ?_
   rw [w_pattern_reader_digit]
   unfold pattern_reader_digit
   refine Wp.stepK hnx fun h' k1 k2 => ?_
   have hr := refuseLast_r (n := n) (d := d) k1 (by omega) hu
   have hib' := hib h'
   rw [hi] at hib'
   repeat (first | (with_reducible refine Wp.join0 (fun _ _ => ?_)) | (with_reducible refine Wp.lett ?_) | ((with_reducible apply Wp.obind); (with_reducible exact avInt_int _ _)) | ((with_reducible refine Wp.ift ?_ ?_); ((with_reducible apply decide_eq_true); omega)) | ((with_reducible first | apply Wp.callN | apply Wp.callK); (with_reducible assumption)))
   exact Wp.callP hr ⟨rfl, _, k1, k2⟩
  | some v =>
   have hv16 := hexV_lt hv
   have hi : ibV c = (v : Int) := by unfold ibV; rw [hv]
   refine Step.ok_of ?_
   rw [w_pattern_reader_digit]
   unfold pattern_reader_digit
   refine Wp.stepK hnx fun h' k1 k2 => ?_
   have hib' := hib h'
   rw [hi] at hib'
   repeat (first | (with_reducible refine Wp.join0 (fun _ _ => ?_)) | ((with_reducible refine Wp.lettu8 ?_ ?_ ?_); omega; omega) | (with_reducible refine Wp.lett ?_) | ((with_reducible apply Wp.obind); (with_reducible exact avInt_int _ _)) | ((with_reducible refine Wp.iff ?_ ?_); ((with_reducible apply decide_eq_false); omega)) | ((with_reducible apply Wp.callN); (with_reducible assumption)) | (with_reducible refine Wp.go0 (by assumption) ?_))
   exact Wp.ret ⟨rfl, k1, k2⟩
def stepF : FR → Except (Int × Nat) (AV × Nat)
 | .ok c q => .ok (.int .u8 (c : Int), q)
 | .bad q => .error (6, q)
theorem two_r (k : Rd h b u p) (hb : b < h.next) (hp : p ≤ u.length) (hu : u.length ≤ 1000000) (hn : 16 < n) : Step b u h (world n (d + 4) 73 [.ptr b 0] h) (stepF (hexAt u p)) := by
 have h1 := digit_r (n := n) (d := d) k hb hp hu
 unfold hexAt
 cases ha : (at? u p).bind hexV with
 | none =>
  rw [ha] at h1
  dsimp only
  refine Step.err_of ?_
  rw [w_pattern_reader_twoDigits]
  unfold pattern_reader_twoDigits
  exact Wp.stepE h1 fun h' p' k1 k2 => ⟨rfl, p', k1, k2⟩
 | some hi =>
  rw [ha] at h1
  dsimp only
  obtain ⟨c, hc0, hc⟩ := Option.bind_eq_some_iff.1 ha
  obtain ⟨hpl, _⟩ := at?_some hc0
  have hh := (hexV_lt hc).1
  have hmb : ∀ H, world n (d + 3) 82 [.int .u8 ((hi : Int) * 16)] H = some (.ret (.bool (mayB hi)), H) := fun H => mayBegin_w hn hh
  by_cases hm : mayB hi = false
  ·rw [if_pos hm]
   refine Step.err_of ?_
   rw [w_pattern_reader_twoDigits]
   unfold pattern_reader_twoDigits
   refine Wp.stepK h1 fun h' k1 k2 => ?_
   have hmb' := hmb h'
   rw [hm] at hmb'
   have hr := refuseLast_r (n := n) (d := d + 1) k1 (by omega) hu
   repeat (first | (with_reducible refine Wp.join0 (fun _ _ => ?_)) | (with_reducible refine Wp.lett ?_) | ((with_reducible apply Wp.obind); (with_reducible first | exact shl4 hh | exact avInt_int _ _ | exact avBool_bool _)) | ((with_reducible refine Wp.ift ?_ ?_); (with_reducible exact Bool.not_false)) | ((with_reducible first | apply Wp.callN | apply Wp.callK); (with_reducible assumption)))
   exact Wp.callP hr ⟨rfl, _, k1, k2⟩
  ·rw [if_neg hm]
   have hm : mayB hi = true := by simpa using hm
   cases hb2 : (at? u (p + 1)).bind hexV with
   | none =>
    dsimp only
    refine Step.err_of ?_
    rw [w_pattern_reader_twoDigits]
    unfold pattern_reader_twoDigits
    refine Wp.stepK h1 fun h' k1 k2 => ?_
    have hmb' := hmb h'
    rw [hm] at hmb'
    have h2 := digit_r (n := n) (d := d) k1 (lt_tch k2 hb) (by omega) hu
    rw [hb2] at h2
    repeat (first | (with_reducible refine Wp.join0 (fun _ _ => ?_)) | (with_reducible refine Wp.lett ?_) | ((with_reducible apply Wp.obind); (with_reducible first | exact shl4 hh | exact avInt_int _ _ | exact avBool_bool _)) | ((with_reducible refine Wp.iff ?_ ?_); (with_reducible exact Bool.not_true)) | ((with_reducible first | apply Wp.callN | apply Wp.callK); (with_reducible assumption)) | (with_reducible refine Wp.go0 (by assumption) ?_))
    exact Wp.stepE h2 fun h'' p' k3 k4 => ⟨rfl, p', k3, k2.trans k4⟩
   | some lo =>
    dsimp only
    obtain ⟨c2, hc20, hc2⟩ := Option.bind_eq_some_iff.1 hb2
    obtain ⟨hpl2, _⟩ := at?_some hc20
    have hl := (hexV_lt hc2).1
    have hbd : ∀ H, world n (d + 3) 83 [.int .u8 (orI .u8 ((hi : Int) * 16) (lo : Int))] H = some (.ret (.bool (byD (hi * 16 + lo))), H) := fun H => by
     rw [or4 hh hl]
     exact byDigits_w (n := n) (d := d + 1) (h := H) _
    by_cases hd : byD (hi * 16 + lo) = true
    ·rw [if_pos hd]
     refine Step.ok_of ?_
     rw [w_pattern_reader_twoDigits]
     unfold pattern_reader_twoDigits
     refine Wp.stepK h1 fun h' k1 k2 => ?_
     have hmb' := hmb h'
     rw [hm] at hmb'
     have h2 := digit_r (n := n) (d := d) k1 (lt_tch k2 hb) (by omega) hu
     rw [hb2] at h2
     repeat (first | (with_reducible refine Wp.join0 (fun _ _ => ?_)) | (with_reducible refine Wp.lett ?_) | ((with_reducible apply Wp.obind); (with_reducible first | exact shl4 hh | exact avInt_int _ _ | exact avBool_bool _)) | ((with_reducible refine Wp.iff ?_ ?_); (with_reducible exact Bool.not_true)) | ((with_reducible first | apply Wp.callN | apply Wp.callK); (with_reducible assumption)) | (with_reducible refine Wp.go0 (by assumption) ?_))
     refine Wp.stepK h2 fun h'' k3 k4 => ?_
     have hbd' := hbd h''
     rw [hd] at hbd'
     repeat (first | (with_reducible refine Wp.join0 (fun _ _ => ?_)) | (with_reducible refine Wp.lett ?_) | ((with_reducible apply Wp.obind); (with_reducible first | exact avInt_int _ _ | exact avBool_bool _)) | ((with_reducible refine Wp.iff ?_ ?_); (with_reducible exact Bool.not_true)) | ((with_reducible apply Wp.callN); (with_reducible assumption)) | (with_reducible refine Wp.go0 (by assumption) ?_))
     rw [or4 hh hl]
     exact Wp.ret ⟨rfl, k3, k2.trans k4⟩
    ·rw [if_neg hd]
     have hd : byD (hi * 16 + lo) = false := by simpa using hd
     refine Step.err_of ?_
     rw [w_pattern_reader_twoDigits]
     unfold pattern_reader_twoDigits
     refine Wp.stepK h1 fun h' k1 k2 => ?_
     have hmb' := hmb h'
     rw [hm] at hmb'
     have h2 := digit_r (n := n) (d := d) k1 (lt_tch k2 hb) (by omega) hu
     rw [hb2] at h2
     repeat (first | (with_reducible refine Wp.join0 (fun _ _ => ?_)) | (with_reducible refine Wp.lett ?_) | ((with_reducible apply Wp.obind); (with_reducible first | exact shl4 hh | exact avInt_int _ _ | exact avBool_bool _)) | ((with_reducible refine Wp.iff ?_ ?_); (with_reducible exact Bool.not_true)) | ((with_reducible first | apply Wp.callN | apply Wp.callK); (with_reducible assumption)) | (with_reducible refine Wp.go0 (by assumption) ?_))
     refine Wp.stepK h2 fun h'' k3 k4 => ?_
     have hbd' := hbd h''
     rw [hd] at hbd'
     have hr := refuseLast_r (n := n) (d := d + 1) k3 (by omega) hu
     repeat (first | (with_reducible refine Wp.join0 (fun _ _ => ?_)) | (with_reducible refine Wp.lett ?_) | ((with_reducible apply Wp.obind); (with_reducible first | exact avInt_int _ _ | exact avBool_bool _)) | ((with_reducible refine Wp.ift ?_ ?_); (with_reducible exact Bool.not_false)) | ((with_reducible first | apply Wp.callN | apply Wp.callK); (with_reducible assumption)))
     exact Wp.callP hr ⟨rfl, _, k3, k2.trans k4⟩
theorem form_r (k : Rd h b u p) (hb : b < h.next) (hp : p ≤ u.length) (hu : u.length ≤ 1000000) (hn : 16 < n) (hq : at? u p ≠ some 34) : Step b u h (world n (d + 5) 58 [.ptr b 0] h) (stepF (formAt u p)) := by
 have h1 := next_r (n := n) (d := d + 2) k hb hp hu
 unfold formAt
 cases ha : at? u p with
 | none =>
  rw [ha] at h1
  dsimp only
  refine Step.err_of ?_
  rw [w_pattern_reader_form]
  unfold pattern_reader_form
  exact Wp.stepE h1 fun h' p' k1 k2 => ⟨rfl, p', k1, k2⟩
 | some a =>
  rw [ha] at h1
  dsimp only
  obtain ⟨hpl, hpa⟩ := at?_some ha
  have ha34 : a ≠ 34 := fun e => hq (by rw [ha, e])
  have hp1 : ∀ H, world n (d + 4) 51 [.int .u8 (a : Int)] H = some (.ret (.bool (plainB a)), H) := fun H => plain_w a
  by_cases h92 : a = 92
  case neg =>
   rw [if_neg h92]
   by_cases hpb : plainB a = true
   ·rw [if_pos ⟨hpb, ha34⟩]
    refine Step.ok_of ?_
    rw [w_pattern_reader_form]
    unfold pattern_reader_form
    refine Wp.stepK h1 fun h' k1 k2 => ?_
    have hp2 := hp1 h'
    rw [hpb] at hp2
    repeat (first | (with_reducible refine Wp.join0 (fun _ _ => ?_)) | (with_reducible refine Wp.lett ?_) | ((with_reducible apply Wp.obind); (with_reducible first | exact avInt_int _ _ | exact avBool_bool _)) | ((with_reducible refine Wp.ift ?_ ?_); ((with_reducible apply bne_t); omega)) | ((with_reducible refine Wp.iff ?_ ?_); (with_reducible exact Bool.not_true)) | ((with_reducible apply Wp.callN); (with_reducible assumption)) | (with_reducible refine Wp.go0 (by assumption) ?_))
    exact Wp.ret ⟨rfl, k1, k2⟩
   ·rw [if_neg (fun hh => hpb hh.1)]
    have hpb : plainB a = false := by simpa using hpb
    refine Step.err_of ?_
    rw [w_pattern_reader_form]
    unfold pattern_reader_form
    refine Wp.stepK h1 fun h' k1 k2 => ?_
    have hp2 := hp1 h'
    rw [hpb] at hp2
    have hr := refuseLast_r (n := n) (d := d + 2) k1 (by omega) hu
    repeat (first | (with_reducible refine Wp.join0 (fun _ _ => ?_)) | (with_reducible refine Wp.lett ?_) | ((with_reducible apply Wp.obind); (with_reducible first | exact avInt_int _ _ | exact avBool_bool _)) | ((with_reducible refine Wp.ift ?_ ?_); first | (with_reducible exact Bool.not_false) | ((with_reducible apply bne_t); omega)) | ((with_reducible first | apply Wp.callN | apply Wp.callK); (with_reducible assumption)))
    exact Wp.callP hr ⟨rfl, _, k1, k2⟩
  case pos =>
   rw [if_pos h92]
   unfold escAt
   cases hd : at? u (p + 1) with
   | none =>
    dsimp only
    refine Step.err_of ?_
    rw [w_pattern_reader_form]
    unfold pattern_reader_form
    refine Wp.stepK h1 fun h' k1 k2 => ?_
    have h2 := next_r (n := n) (d := d + 2) k1 (lt_tch k2 hb) (by omega) hu
    rw [hd] at h2
    repeat (first | (with_reducible refine Wp.lett ?_) | ((with_reducible apply Wp.obind); (with_reducible exact avInt_int _ _)) | ((with_reducible refine Wp.iff ?_ ?_); ((with_reducible apply bne_f); omega)))
    exact Wp.stepE h2 fun h'' p' k3 k4 => ⟨rfl, p', k3, k2.trans k4⟩
   | some c =>
    dsimp only
    obtain ⟨hpl2, hpc⟩ := at?_some hd
    by_cases c1 : c = 34
    ·rw [if_pos (.inl c1)]
     refine Step.ok_of ?_
     rw [w_pattern_reader_form]
     unfold pattern_reader_form
     refine Wp.stepK h1 fun h' k1 k2 => ?_
     have h2 := next_r (n := n) (d := d + 2) k1 (lt_tch k2 hb) (by omega) hu
     rw [hd] at h2
     repeat (first | (with_reducible refine Wp.lett ?_) | ((with_reducible apply Wp.obind); (with_reducible exact avInt_int _ _)) | ((with_reducible refine Wp.iff ?_ ?_); ((with_reducible apply bne_f); omega)))
     refine Wp.stepK h2 fun h'' k3 k4 => ?_
     repeat (first | (with_reducible refine Wp.join1 (fun _ _ => ?_)) | (with_reducible refine Wp.lett ?_) | ((with_reducible apply Wp.obind); (with_reducible exact avInt_int _ _)) | ((with_reducible refine Wp.ift ?_ ?_); first | (with_reducible rfl) | ((with_reducible apply beq_t); omega)) | (with_reducible refine Wp.go1 (by assumption) ?_))
     exact Wp.ret ⟨rfl, k3, k2.trans k4⟩
    by_cases c2 : c = 92
    ·rw [if_pos (.inr c2)]
     have q92 : ((c : Int) == 92) = true := beq_t (by omega)
     refine Step.ok_of ?_
     rw [w_pattern_reader_form]
     unfold pattern_reader_form
     refine Wp.stepK h1 fun h' k1 k2 => ?_
     have h2 := next_r (n := n) (d := d + 2) k1 (lt_tch k2 hb) (by omega) hu
     rw [hd] at h2
     repeat (first | (with_reducible refine Wp.lett ?_) | ((with_reducible apply Wp.obind); (with_reducible exact avInt_int _ _)) | ((with_reducible refine Wp.iff ?_ ?_); ((with_reducible apply bne_f); omega)))
     refine Wp.stepK h2 fun h'' k3 k4 => ?_
     repeat (first | (with_reducible refine Wp.join1 (fun _ _ => ?_)) | (with_reducible refine Wp.lett ?_) | ((with_reducible apply Wp.obind); (with_reducible exact avInt_int _ _)) | ((with_reducible refine Wp.ift ?_ ?_); (with_reducible assumption)) | ((with_reducible refine Wp.iff ?_ ?_); ((with_reducible apply beq_f); omega)) | (with_reducible refine Wp.go1 (by assumption) ?_))
     exact Wp.ret ⟨rfl, k3, k2.trans k4⟩
    have q92 : ((c : Int) == 92) = false := beq_f (by omega)
    rw [if_neg (by omega)]
    by_cases c3 : c = 110
    ·rw [if_pos c3]
     refine Step.ok_of ?_
     rw [w_pattern_reader_form]
     unfold pattern_reader_form
     refine Wp.stepK h1 fun h' k1 k2 => ?_
     have h2 := next_r (n := n) (d := d + 2) k1 (lt_tch k2 hb) (by omega) hu
     rw [hd] at h2
     repeat (first | (with_reducible refine Wp.lett ?_) | ((with_reducible apply Wp.obind); (with_reducible exact avInt_int _ _)) | ((with_reducible refine Wp.iff ?_ ?_); ((with_reducible apply bne_f); omega)))
     refine Wp.stepK h2 fun h'' k3 k4 => ?_
     repeat (first | (with_reducible refine Wp.join1 (fun _ _ => ?_)) | (with_reducible refine Wp.lett ?_) | ((with_reducible apply Wp.obind); (with_reducible exact avInt_int _ _)) | ((with_reducible refine Wp.ift ?_ ?_); ((with_reducible apply beq_t); omega)) | ((with_reducible refine Wp.iff ?_ ?_); first | (with_reducible assumption) | ((with_reducible apply beq_f); omega)) | (with_reducible refine Wp.go1 (by assumption) ?_))
     exact Wp.ret ⟨rfl, k3, k2.trans k4⟩
    rw [if_neg c3]
    by_cases c4 : c = 114
    ·rw [if_pos c4]
     refine Step.ok_of ?_
     rw [w_pattern_reader_form]
     unfold pattern_reader_form
     refine Wp.stepK h1 fun h' k1 k2 => ?_
     have h2 := next_r (n := n) (d := d + 2) k1 (lt_tch k2 hb) (by omega) hu
     rw [hd] at h2
     repeat (first | (with_reducible refine Wp.lett ?_) | ((with_reducible apply Wp.obind); (with_reducible exact avInt_int _ _)) | ((with_reducible refine Wp.iff ?_ ?_); ((with_reducible apply bne_f); omega)))
     refine Wp.stepK h2 fun h'' k3 k4 => ?_
     repeat (first | (with_reducible refine Wp.join1 (fun _ _ => ?_)) | (with_reducible refine Wp.lett ?_) | ((with_reducible apply Wp.obind); (with_reducible exact avInt_int _ _)) | ((with_reducible refine Wp.ift ?_ ?_); ((with_reducible apply beq_t); omega)) | ((with_reducible refine Wp.iff ?_ ?_); first | (with_reducible assumption) | ((with_reducible apply beq_f); omega)) | (with_reducible refine Wp.go1 (by assumption) ?_))
     exact Wp.ret ⟨rfl, k3, k2.trans k4⟩
    rw [if_neg c4]
    by_cases c5 : c = 116
    ·rw [if_pos c5]
     refine Step.ok_of ?_
     rw [w_pattern_reader_form]
     unfold pattern_reader_form
     refine Wp.stepK h1 fun h' k1 k2 => ?_
     have h2 := next_r (n := n) (d := d + 2) k1 (lt_tch k2 hb) (by omega) hu
     rw [hd] at h2
     repeat (first | (with_reducible refine Wp.lett ?_) | ((with_reducible apply Wp.obind); (with_reducible exact avInt_int _ _)) | ((with_reducible refine Wp.iff ?_ ?_); ((with_reducible apply bne_f); omega)))
     refine Wp.stepK h2 fun h'' k3 k4 => ?_
     repeat (first | (with_reducible refine Wp.join1 (fun _ _ => ?_)) | (with_reducible refine Wp.lett ?_) | ((with_reducible apply Wp.obind); (with_reducible exact avInt_int _ _)) | ((with_reducible refine Wp.ift ?_ ?_); ((with_reducible apply beq_t); omega)) | ((with_reducible refine Wp.iff ?_ ?_); first | (with_reducible assumption) | ((with_reducible apply beq_f); omega)) | (with_reducible refine Wp.go1 (by assumption) ?_))
     exact Wp.ret ⟨rfl, k3, k2.trans k4⟩
    rw [if_neg c5]
    by_cases c6 : c = 120
    ·rw [if_pos c6]
     have h3 : ∀ H, Rd H b u (p + 1 + 1) → b < H.next → Step b u H (world n (d + 4) 73 [.ptr b 0] H) (stepF (hexAt u (p + 1 + 1))) := fun H k3 hb3 => two_r k3 hb3 (by omega) hu hn
     cases hx : hexAt u (p + 1 + 1) with
     | ok v q =>
      rw [hx] at h3
      refine Step.ok_of ?_
      rw [w_pattern_reader_form]
      unfold pattern_reader_form
      refine Wp.stepK h1 fun h' k1 k2 => ?_
      have h2 := next_r (n := n) (d := d + 2) k1 (lt_tch k2 hb) (by omega) hu
      rw [hd] at h2
      repeat (first | (with_reducible refine Wp.lett ?_) | ((with_reducible apply Wp.obind); (with_reducible exact avInt_int _ _)) | ((with_reducible refine Wp.iff ?_ ?_); ((with_reducible apply bne_f); omega)))
      refine Wp.stepK h2 fun h'' k3 k4 => ?_
      have h3' := h3 h'' k3 (lt_tch k4 (lt_tch k2 hb))
      repeat (first | (with_reducible refine Wp.join1 (fun _ _ => ?_)) | (with_reducible refine Wp.lett ?_) | ((with_reducible apply Wp.obind); (with_reducible exact avInt_int _ _)) | ((with_reducible refine Wp.ift ?_ ?_); ((with_reducible apply beq_t); omega)) | ((with_reducible refine Wp.iff ?_ ?_); first | (with_reducible assumption) | ((with_reducible apply beq_f); omega)) | (with_reducible refine Wp.go1 (by assumption) ?_))
      refine Wp.stepK h3' fun h''' k5 k6 => ?_
      repeat (((with_reducible apply Wp.obind); (with_reducible exact avInt_int _ _)))
      exact Wp.ret ⟨rfl, k5, (k2.trans k4).trans k6⟩
     | bad q =>
      rw [hx] at h3
      refine Step.err_of ?_
      rw [w_pattern_reader_form]
      unfold pattern_reader_form
      refine Wp.stepK h1 fun h' k1 k2 => ?_
      have h2 := next_r (n := n) (d := d + 2) k1 (lt_tch k2 hb) (by omega) hu
      rw [hd] at h2
      repeat (first | (with_reducible refine Wp.lett ?_) | ((with_reducible apply Wp.obind); (with_reducible exact avInt_int _ _)) | ((with_reducible refine Wp.iff ?_ ?_); ((with_reducible apply bne_f); omega)))
      refine Wp.stepK h2 fun h'' k3 k4 => ?_
      have h3' := h3 h'' k3 (lt_tch k4 (lt_tch k2 hb))
      repeat (first | (with_reducible refine Wp.join1 (fun _ _ => ?_)) | (with_reducible refine Wp.lett ?_) | ((with_reducible apply Wp.obind); (with_reducible exact avInt_int _ _)) | ((with_reducible refine Wp.ift ?_ ?_); ((with_reducible apply beq_t); omega)) | ((with_reducible refine Wp.iff ?_ ?_); first | (with_reducible assumption) | ((with_reducible apply beq_f); omega)) | (with_reducible refine Wp.go1 (by assumption) ?_))
      exact Wp.stepE h3' fun h''' p' k5 k6 => ⟨rfl, p', k5, (k2.trans k4).trans k6⟩
    rw [if_neg c6]
    refine Step.err_of ?_
    rw [w_pattern_reader_form]
    unfold pattern_reader_form
    refine Wp.stepK h1 fun h' k1 k2 => ?_
    have h2 := next_r (n := n) (d := d + 2) k1 (lt_tch k2 hb) (by omega) hu
    rw [hd] at h2
    repeat (first | (with_reducible refine Wp.lett ?_) | ((with_reducible apply Wp.obind); (with_reducible exact avInt_int _ _)) | ((with_reducible refine Wp.iff ?_ ?_); ((with_reducible apply bne_f); omega)))
    refine Wp.stepK h2 fun h'' k3 k4 => ?_
    have hr := refuseLast_r (n := n) (d := d + 2) k3 (by omega) hu
    repeat (first | (with_reducible refine Wp.join1 (fun _ _ => ?_)) | (with_reducible refine Wp.lett ?_) | ((with_reducible apply Wp.obind); (with_reducible exact avInt_int _ _)) | ((with_reducible refine Wp.iff ?_ ?_); first | (with_reducible assumption) | ((with_reducible apply beq_f); omega)) | (with_reducible refine Wp.go1 (by assumption) ?_))
    exact Wp.callP hr ⟨rfl, _, k3, k2.trans k4⟩
end
abbrev TBld : Nat := 57
abbrev TU8 : Nat := 5
abbrev BldW (h : AHeap) (b c : Nat) (l : Bytes) : Prop := BldR TBld TU8 h b c l
theorem eql_nil_nil (h : AHeap) : opBin Try.prog h .eql 55 true (some .nilp) (some .nilp) = some (.val (.bool true), h) := by kernel_rfl
theorem eql_ptr_nil (h : AHeap) (b : Nat) : opBin Try.prog h .eql 55 true (some (.ptr b 0)) (some .nilp) = some (.val (.bool false), h) := by kernel_rfl
theorem noEscape_ptr (h : AHeap) (b : Nat) : externA Try.prog h 70 [.ptr b 0] = some (.val (.ptr b 0), h) := by kernel_rfl
theorem binV_same (P : Program) (h : AHeap) (op : BinOp) (t : TypeId) (lit : Bool) (b o o' : Nat) : opBinV P h op t lit (some (.ptr b o)) (some (.ptr b o')) = opBin P h op t lit (some (.ptr b o)) (some (.ptr b o')) := by
 have hb : Nat.beq b b = true := Nat.beq_refl b
 simp only [opBinV, apartPtr, hb, Bool.not_true, Bool.false_and, Bool.and_false]
theorem conv_there {h : AHeap} {b : Nat} {t : T AV} (hb : h.get b = some (.row 2 t TBld)) : opConv Try.prog h 55 102 (some (.ptr b 0)) = some (.val (.ptr b 0), h) :=
 conv_unsafe (k := 1) (by kernel_rfl) (by kernel_rfl) hb
theorem conv_back {h : AHeap} {b : Nat} {t : T AV} (hb : h.get b = some (.row 2 t TBld)) (hx : memB TBld h.ex = true) : opConv Try.prog h 102 55 (some (.ptr b 0)) = some (.val (.ptr b 0), h) :=
 conv_safe (u := TBld) (by kernel_rfl) (by kernel_rfl) hb hx (by kernel_rfl)
theorem neq_same (h : AHeap) (b : Nat) : opBin Try.prog h .neq 55 false (some (.ptr b 0)) (some (.ptr b 0)) = some (.val (.bool false), h) :=
 neq_self (u := TBld) (by kernel_rfl)
theorem bldSl_byte (h : AHeap) (v : Int) : bldSl Try.prog h 50 1 [(0, .int .u8 v)] = outNewS h TU8 [.int .u8 v] 1 1 := by kernel_rfl
theorem out_news {h : AHeap} {e : TypeId} {l : List AV} {n sz : Nat} (h1 : l.all AV.one = true) (hex : memB e h.ex = false) : outNewS h e l n sz = some (.val (.sl h.next 0 n sz), newH h e l) := by
 unfold outNewS
 rw [if_pos ⟨h1, hex⟩]
 rfl
section
variable {n d b c : Nat} {h : AHeap} {l : Bytes} {Q : ARes → AHeap → Prop}
theorem copyCheck_r (k : BldW h b c l) (hx : memB TBld h.ex = true) : ∃ h', world n (d + 1) 49 [.ptr b 0] h = some (.ret (.tup []), h') ∧ BldW h' b c l ∧ Tch [b] h h' := by
 obtain ⟨a, buf, k1, k2, k3, k4⟩ := k
 apply Wp.ex
 rw [w_strings_Builder_copyCheck]
 unfold strings_Builder_copyCheck
 repeat (((with_reducible apply Wp.obind); first | (with_reducible first | exact nilC_ptr _ _ | exact fldP_ptr _ _ _) | ((with_reducible apply RowH.cell'); (with_reducible assumption); rfl)))
 rcases k3 with rfl | rfl
 ·refine Wp.outK (eql_nil_nil h) ?_
  repeat (first | (with_reducible refine Wp.join0 (fun _ _ => ?_)) | ((with_reducible apply Wp.obind); (with_reducible exact avBool_bool _)) | ((with_reducible refine Wp.ift ?_ ?_); (with_reducible rfl)))
  have k1' := k1
  obtain ⟨t, g1, _⟩ := k1'
  refine Wp.outK (conv_there g1) ?_
  refine Wp.outK (noEscape_ptr h b) ?_
  refine Wp.outK (conv_back g1 hx) ?_
  repeat (((with_reducible apply Wp.obind); (with_reducible first | exact nilC_ptr _ _ | exact fldP_ptr _ _ _)))
  refine Wp.st1 k1 (by simp) rfl (fun h' q1 q2 q3 => ?_)
  repeat ((with_reducible refine Wp.go0 (by assumption) ?_))
  exact Wp.ret ⟨rfl, ⟨_, buf, q1, by omega, .inr rfl, k4.tch q2 (fun hc => by simpa using hc)⟩, q2⟩
 ·refine Wp.outK (eql_ptr_nil h b) ?_
  repeat (first | (with_reducible refine Wp.join0 (fun _ _ => ?_)) | ((with_reducible apply Wp.obind); first | (with_reducible first | exact avBool_bool _ | exact nilC_ptr _ _ | exact fldP_ptr _ _ _) | ((with_reducible apply RowH.cell'); (with_reducible assumption); rfl)) | ((with_reducible refine Wp.iff ?_ ?_); (with_reducible rfl)))
  refine Wp.outK ((binV_same _ _ _ _ _ _ _ _).trans (neq_same h b)) ?_
  repeat (first | ((with_reducible apply Wp.obind); (with_reducible exact avBool_bool _)) | ((with_reducible refine Wp.iff ?_ ?_); (with_reducible rfl)) | (with_reducible refine Wp.go0 (by assumption) ?_))
  exact Wp.ret ⟨rfl, ⟨_, buf, k1, k2, .inr rfl, k4⟩, Tch.refl _ _⟩
theorem writeByte_r (k : BldW h b c l) (hx : memB TBld h.ex = true) (hu : memB TU8 h.ex = false) {y : Nat} (hy : y < 256) (hbig : l.length + 1 ≤ 1000000000) :
  ∃ c' h', world n (d + 2) 29 [.ptr b 0, .int .u8 (y : Int)] h = some (.ret .nifc, h') ∧ BldW h' b c' (l ++ [UInt8.ofNat y]) ∧ (c' = c ∨ h.next ≤ c') ∧ Tch [b, c] h h' := by
 obtain ⟨h1, e1, q1, t1⟩ := copyCheck_r (n := n) (d := d) k hx
 suffices hK : Wp (world n (d + 2) 29 [.ptr b 0, .int .u8 (y : Int)] h) fun r h' => ∃ c', r = .ret .nifc ∧ BldW h' b c' (l ++ [UInt8.ofNat y]) ∧ (c' = c ∨ h.next ≤ c') ∧ Tch [b, c] h h' by
  obtain ⟨_, h', e, c', rfl, q⟩ := hK
  exact ⟨c', h', e, q⟩
 rw [w_strings_Builder_WriteByte]
 unfold strings_Builder_WriteByte
 refine Wp.callN e1 ?_
 have hlt := q1.lt
 obtain ⟨a, buf, k1, k2, k3, k4⟩ := q1
 repeat (((with_reducible apply Wp.obind); first | (with_reducible first | exact nilC_ptr _ _ | exact fldP_ptr _ _ _) | ((with_reducible apply RowH.cell'); (with_reducible assumption); rfl)))
 refine Wp.outK ((bldSl_byte _ _).trans (out_news rfl (by rw [t1.2.1]; exact hu))) ?_
 have tN : Tch [] h1 (newH h1 TU8 [.int .u8 (y : Int)]) := Tch.newH _ _ _ _
 have kN := RowH.new h1 TU8 [.int .u8 (y : Int)]
 have nN := next_newH h1 TU8 [.int .u8 (y : Int)]
 have hyb : bytesC [UInt8.ofNat y] = [.int .u8 (y : Int)] := by
  show [AV.int .u8 ((UInt8.ofNat y).toNat : Int)] = _
  rw [UInt8.toNat_ofNat']
  rw [Nat.mod_eq_of_lt (by omega)]
 obtain ⟨buf', c', h2, a1, a2, a3, a4, a5⟩ := (k4.tch tN (by simp)).append1 (P := Try.prog) (t := 50) (u := 50) (x := .sl h1.next 0 1 1) (by omega) (UInt8.ofNat y) (by kernel_rfl) (by kernel_rfl) (by kernel_rfl) (by kernel_rfl) (by rw [tN.2.1, t1.2.1]; exact hu) rfl (by rw [hyb]; exact first_one kN rfl) hbig
 refine Wp.outK a1 ?_
 have k2' : RowH h2 b TBld [a, buf] := (k1.tch tN k2 (by simp)).same a5
 obtain ⟨o1, o2, _⟩ := a2.one
 rw [o2]
 repeat (((with_reducible apply Wp.obind); (with_reducible first | exact nilC_ptr _ _ | exact fldP_ptr _ _ _)))
 refine Wp.st1 k2' (by simp) o1 (fun h3 r1 r2 r3 => ?_)
 have n1 := t1.1
 have n2 := a4.1
 refine Wp.ret ⟨c', rfl, ⟨a, buf', r1, by omega, k3, a2.tch r2 (fun hc => by simpa using hc)⟩, by omega, ?_⟩
 exact (t1.mono (by simp)).trans ((tN.mono (by simp)).trans ((a4.mono (by simp)).trans (r2.mono (by simp))))
theorem len_r (k : BldW h b c l) : world n (d + 1) 56 [.ptr b 0] h = some (.ret (.int .i64 (l.length : Int)), h) := by
 obtain ⟨a, buf, k1, k2, k3, k4⟩ := k
 apply Wp.eq
 rw [w_strings_Builder_Len]
 unfold strings_Builder_Len
 repeat (((with_reducible apply Wp.obind); first | (with_reducible first | exact k4.one.2.2 | exact nilC_ptr _ _ | exact fldP_ptr _ _ _) | ((with_reducible apply RowH.cell'); (with_reducible assumption); rfl)))
 exact Wp.ret ⟨rfl, rfl⟩
theorem string_r (k : BldW h b c l) (hbig : l.length ≤ 1000000000) : ∃ h', world n (d + 1) 31 [.ptr b 0] h = some (.ret (strA l), h') ∧ Tch [b, c] h h' := by
 obtain ⟨a, buf, k1, k2, k3, k4⟩ := k
 apply Wp.ex
 rw [w_strings_Builder_String]
 unfold strings_Builder_String
 repeat (((with_reducible apply Wp.obind); first | (with_reducible first | exact nilC_ptr _ _ | exact fldP_ptr _ _ _) | ((with_reducible apply RowH.cell'); (with_reducible assumption); rfl)))
 refine Wp.obind k4.one.2.2 ?_
 rcases k4 with ⟨rfl, rfl, rfl⟩ | ⟨rfl, g0, g1, g2, g3⟩
 ·refine Wp.outK (show opSliceData h .nsl = some (.val .nilp, h) from rfl) ?_
  refine Wp.chk (by rw [reLoad_cell (P := Try.prog) (ty := 50) (by kernel_rfl) (k1.cell' rfl) same_nsl]; rfl) ?_
  refine Wp.outK (show opUnsafeStr Try.prog h 89 .nilp (.int .i64 0) = some (.val (strA []), h) from rfl) ?_
  repeat (((with_reducible apply Wp.obind); (with_reducible exact avStr_str _)))
  exact Wp.ret ⟨rfl, Tch.refl _ _⟩
 ·have d1 : opSliceData h (.sl c 0 l.length 1) = some (.val (.ptr c 0), h) := by
   cases l with
   | nil => exact absurd rfl g0
   | cons x l => rfl
  refine Wp.outK d1 ?_
  refine Wp.chk (by rw [reLoad_cell (P := Try.prog) (ty := 50) (by kernel_rfl) (k1.cell' rfl) (same_sl _ _ _ _)]; rfl) ?_
  have g4 := g3.part (o := 0) (n := (bytesC l).length) (by omega)
  rw [List.drop_zero, List.take_length, bytesC_length] at g4
  refine Wp.outK (unsafeStr_row (by kernel_rfl) g0 hbig g4 g3.type) ?_
  repeat (((with_reducible apply Wp.obind); (with_reducible exact avStr_str _)))
  exact Wp.ret ⟨rfl, Tch.put (.inl (by simp)) _⟩
end
section
variable {n d b p : Nat} {h : AHeap} {u : Bytes} {Q : ARes → AHeap → Prop}
theorem take_r (k : Rd h b u p) (hb : b < h.next) (hp : p ≤ u.length) (hu : u.length ≤ 1000000) (c : Nat) : Step b u h (world n (d + 4) 54 [.ptr b 0, .int .u8 (c : Int)] h) (if at? u p = some c then .ok (.tup [], p + 1) else .error (6, p)) := by
 have hs := skips_r (n := n) (d := d) k hb hp hu c
 by_cases hc : at? u p = some c
 ·rw [if_pos hc, decide_eq_true hc] at hs
  rw [if_pos hc]
  refine Step.ok_of ?_
  rw [w_pattern_reader_take]
  unfold pattern_reader_take
  refine Wp.stepN hs fun h' k1 k2 => ?_
  repeat (first | (with_reducible refine Wp.join0 (fun _ _ => ?_)) | (with_reducible refine Wp.lett ?_) | ((with_reducible apply Wp.obind); (with_reducible exact avBool_bool _)) | ((with_reducible refine Wp.iff ?_ ?_); (with_reducible exact Bool.not_true)) | (with_reducible refine Wp.go0 (by assumption) ?_))
  exact Wp.ret ⟨rfl, k1, k2⟩
 ·rw [if_neg hc, decide_eq_false hc] at hs
  rw [if_neg hc]
  refine Step.err_of ?_
  rw [w_pattern_reader_take]
  unfold pattern_reader_take
  refine Wp.stepN hs fun h' k1 k2 => ?_
  have hr := refuse_r (n := n) (d := d + 2) (h := h') 6 p
  repeat (first | (with_reducible refine Wp.join0 (fun _ _ => ?_)) | (with_reducible refine Wp.lett ?_) | ((with_reducible apply Wp.obind); first | (with_reducible first | exact avInt_int _ _ | exact avBool_bool _ | exact nilC_ptr _ _ | exact fldP_ptr _ _ _) | ((with_reducible apply RowH.cell'); (with_reducible assumption); rfl)) | ((with_reducible refine Wp.ift ?_ ?_); (with_reducible exact Bool.not_false)))
  exact Wp.callP hr ⟨rfl, p, k1, k2⟩
theorem quoted_loop {most : Int} {bb : Nat} {hp0 : AHeap} (ebb : newP hp0 = .ptr bb 0) {H0 : AHeap} (hb : b < H0.next) (hbb : bb < H0.next) (hne : b ≠ bb) (hu : u.length ≤ 1000000) (hn : 16 < n) (hxB : memB TBld H0.ex = true) (hx8 : memB TU8 H0.ex = false) {k10 : AHeap → R} :
  ∀ (fuel f p c : Nat) (acc : Bytes) (H : AHeap), fuel < f → u.length + 1 ≤ fuel + p → p ≤ u.length → acc.length ≤ p → Rd H b u p → BldW H bb c acc → (c = bb ∨ H0.next ≤ c) → Tch [b, bb] H0 H →
   (∀ l q c' H', scanQ u most fuel p acc = .ok l q → l.length ≤ u.length → Rd H' b u q → BldW H' bb c' l → (c' = bb ∨ H0.next ≤ c') → Tch [b, bb] H0 H' → Wp (k10 H') Q) →
   (∀ e q p' H', scanQ u most fuel p acc = .bad e q → Rd H' b u p' → Tch [b, bb] H0 H' → Q (.panic (PanA e q)) H') →
   Wp (pattern_reader_quoted_L0 (world n (d + 5)) (.ptr b 0) most hp0 k10 f H) Q
 | 0, f, p, c, acc, H, hf, hfu, hp, _, _, _, _, _, _, _ => by omega
 | fuel + 1, f + 1, p, c, acc, H, hf, hfu, hp, hacc, k, B, hc, t, hok, hbad => by
  rw [pattern_reader_quoted_L0_s]
  unfold pattern_reader_quoted_L0b
  have n0 := t.1
  have hs := skips_r (n := n) (d := d + 2) k (by omega) hp hu 34
  by_cases hq : at? u p = some 34
  ·rw [if_pos hq, decide_eq_true hq] at hs
   have hok' := hok acc (p + 1) 
   refine Wp.stepN hs fun h1 k1 t1 => ?_
   obtain ⟨hpl, _⟩ := at?_some hq
   repeat (first | (with_reducible refine Wp.lett ?_) | ((with_reducible apply Wp.obind); (with_reducible exact avBool_bool _)) | ((with_reducible refine Wp.iff ?_ ?_); (with_reducible exact Bool.not_true)))
   exact hok acc (p + 1) c h1 (by rw [scanQ, if_pos hq]) (by omega) k1 (B.tch t1 (by simpa using Ne.symm hne) (by simp; omega)) hc (t.trans (t1.mono (by simp)))
  ·rw [if_neg hq, decide_eq_false hq] at hs
   refine Wp.stepN hs fun h1 k1 t1 => ?_
   have B1 := B.tch t1 (by simpa using Ne.symm hne) (by simp; omega)
   have tt1 : Tch [b, bb] H0 h1 := t.trans (t1.mono (by simp))
   have n1 := t1.1
   have hl := len_r (n := n) (d := d + 4) B1
   rw [ebb]
   by_cases hm : (acc.length : Int) = most
   ·have hr := refuse_r (n := n) (d := d + 4) (h := h1) 3 p
    repeat (first | (with_reducible refine Wp.join0 (fun _ _ => ?_)) | (with_reducible refine Wp.lett ?_) | ((with_reducible apply Wp.obind); first | (with_reducible first | exact avInt_int _ _ | exact avBool_bool _ | exact nilC_ptr _ _ | exact fldP_ptr _ _ _) | ((with_reducible apply RowH.cell'); (with_reducible assumption); rfl)) | ((with_reducible refine Wp.ift ?_ ?_); first | (with_reducible exact Bool.not_false) | ((with_reducible apply beq_t); omega)) | ((with_reducible first | apply Wp.callN | apply Wp.callK); (with_reducible assumption)))
    exact Wp.callP hr (hbad 3 p p h1 (by rw [scanQ, if_neg hq, if_pos hm]) k1 tt1)
   ·have hfo := form_r (n := n) (d := d) k1 (by omega) hp hu hn hq
    cases hx : formAt u p with
    | bad q =>
     rw [hx] at hfo
     repeat (first | (with_reducible refine Wp.join0 (fun _ _ => ?_)) | (with_reducible refine Wp.lett ?_) | ((with_reducible apply Wp.obind); (with_reducible first | exact avInt_int _ _ | exact avBool_bool _)) | ((with_reducible refine Wp.ift ?_ ?_); (with_reducible exact Bool.not_false)) | ((with_reducible refine Wp.iff ?_ ?_); ((with_reducible apply beq_f); omega)) | ((with_reducible first | apply Wp.callN | apply Wp.callK); (with_reducible assumption)) | (with_reducible refine Wp.go0 (by assumption) ?_))
     exact Wp.stepE hfo fun h2 p2 k2 t2 => hbad 6 q p2 h2 (by rw [scanQ, if_neg hq, if_neg hm, hx]) k2 (tt1.trans (t2.mono (by simp)))
    | ok v q =>
     rw [hx] at hfo
     obtain ⟨hv, hq1, hq2⟩ := formAt_ok hx
     repeat (first | (with_reducible refine Wp.join0 (fun _ _ => ?_)) | (with_reducible refine Wp.lett ?_) | ((with_reducible apply Wp.obind); (with_reducible first | exact avInt_int _ _ | exact avBool_bool _)) | ((with_reducible refine Wp.ift ?_ ?_); (with_reducible exact Bool.not_false)) | ((with_reducible refine Wp.iff ?_ ?_); ((with_reducible apply beq_f); omega)) | ((with_reducible first | apply Wp.callN | apply Wp.callK); (with_reducible assumption)) | (with_reducible refine Wp.go0 (by assumption) ?_))
     refine Wp.stepK hfo fun h2 k2 t2 => ?_
     have B2 := B1.tch t2 (by simpa using Ne.symm hne) (by simp; omega)
     have tt2 : Tch [b, bb] H0 h2 := tt1.trans (t2.mono (by simp))
     have n2 := t2.1
     obtain ⟨c', h3, e3, B3, hc', t3⟩ := writeByte_r (n := n) (d := d + 3) B2 (by rw [tt2.2.1]; exact hxB) (by rw [tt2.2.1]; exact hx8) hv (by omega)
     have hbc : b ≠ c := by omega
     repeat (first | ((with_reducible apply Wp.obind); (with_reducible exact avInt_int _ _)) | ((with_reducible apply Wp.callN); (with_reducible assumption)))
     refine quoted_loop ebb hb hbb hne hu hn hxB hx8 fuel f q c' (acc ++ [UInt8.ofNat v]) h3 (by omega) (by omega) hq2 (by simp; omega) (k2.tch t3 (by omega) (by simp; exact ⟨hne, hbc⟩)) B3 (by omega) (tt2.trans' t3 (by intro x hx; simp only [List.mem_cons, List.not_mem_nil, or_false] at hx ⊢; omega)) ?_ ?_
     ·intro l q' c'' H' hsc
      exact hok l q' c'' H' (by rw [scanQ, if_neg hq, if_neg hm, hx]; exact hsc)
     ·intro e q' p' H' hsc
      exact hbad e q' p' H' (by rw [scanQ, if_neg hq, if_neg hm, hx]; exact hsc)
theorem quoted_r (k : Rd h b u 0) (hb : b < h.next) (hu : u.length ≤ 1000000) (hn : u.length + 20 < n) (most : Int) (hxB : memB TBld h.ex = true) (hx8 : memB TU8 h.ex = false) : Step b u h (world n (d + 6) 37 [.ptr b 0, .int .i64 most] h) (match quotedQ u most with
  | .ok l q => .ok (strA l, q)
  | .bad e q => .error (e, q)) := by
 have ht := take_r (n := n) (d := d + 1) k hb (Nat.zero_le _) hu 34
 unfold quotedQ
 by_cases hq : at? u 0 = some 34
 case neg =>
  rw [if_neg hq] at ht
  rw [if_neg hq]
  refine Step.err_of ?_
  rw [w_pattern_reader_quoted]
  unfold pattern_reader_quoted
  exact Wp.stepE ht fun h' p' k1 k2 => ⟨rfl, p', k1, k2⟩
 rw [if_pos hq] at ht
 rw [if_pos hq]
 obtain ⟨hpl, _⟩ := at?_some hq
 have main : ∀ Q : ARes → AHeap → Prop, (∀ l q h', scanQ u most (u.length + 1) 1 [] = .ok l q → Rd h' b u q → Tch [b] h h' → Q (.ret (strA l)) h') → (∀ e q p' h', scanQ u most (u.length + 1) 1 [] = .bad e q → Rd h' b u p' → Tch [b] h h' → Q (.panic (PanA e q)) h') → Wp (world n (d + 6) 37 [.ptr b 0, .int .i64 most] h) Q := by
  intro Q h1 h2
  rw [w_pattern_reader_quoted]
  unfold pattern_reader_quoted
  refine Wp.stepK ht fun h3 k3 t3 => ?_
  have n3 := t3.1
  have tN : Tch [] h3 (newH h3 TBld [.nilp, .nsl]) := Tch.newH _ _ _ _
  have B0 := BldR.new TBld TU8 h3
  have nN := next_newH h3 TBld [.nilp, .nsl]
  have k4 := k3.tch tN (by omega) (by simp)
  ((with_reducible refine Wp.lett ?_))
  generalize newH h3 TBld [.nilp, .nsl] = h4 at *
  ((with_reducible refine Wp.join0 (fun _ _ => ?_)))
  rename_i k10 hk10
  have tb : ∀ {h' : AHeap}, Tch [b, h3.next] h4 h' → Tch [b] h h' := fun t => (t3.trans (tN.mono (by simp))).trans' t (by intro x hx; simp only [List.mem_cons, List.not_mem_nil, or_false] at hx ⊢; omega)
  refine quoted_loop (newP_eq h3) (H0 := h4) (by omega) (by omega) (by omega) hu (by omega) (by rw [tN.2.1, t3.2.1]; exact hxB) (by rw [tN.2.1, t3.2.1]; exact hx8) (u.length + 1) n 1 h3.next [] h4 (by omega) (by omega) (by omega) (by simp) k4 B0 (.inl rfl) (Tch.refl _ _) ?_ ?_
  ·intro l q c' H' hsc hl k5 B5 hc5 t5
   obtain ⟨h6, e6, t6⟩ := string_r (n := n) (d := d + 4) B5 (by omega)
   have hbc : b ≠ c' := by omega
   repeat (first | ((with_reducible apply Wp.obind); (with_reducible exact avStr_str _)) | ((with_reducible apply Wp.callN); (with_reducible assumption)) | (with_reducible refine Wp.go0 (by assumption) ?_) | rw [newP_eq])
   refine Wp.ret (h1 l q h6 hsc (k5.tch t6 (lt_tch (tb t5) hb) (by simp; omega)) ?_)
   exact (tb t5).trans' t6 (by intro x hx; simp only [List.mem_cons, List.not_mem_nil, or_false] at hx ⊢; omega)
  ·intro e q p' H' hsc k5 t5
   exact h2 e q p' H' hsc k5 (tb t5)
 cases hsc : scanQ u most (u.length + 1) 1 [] with
 | ok l q =>
  rw [hsc] at main
  refine Step.ok_of (main _ (fun l' q' h' e k1 k2 => ?_) (fun e q p' h' hh => by cases hh))
  cases e
  exact ⟨rfl, k1, k2⟩
 | bad e q =>
  rw [hsc] at main
  refine Step.err_of (main _ (fun l' q' h' e k1 k2 => by cases e) (fun e q p' h' hh k1 k2 => ?_))
  cases hh
  exact ⟨rfl, p', k1, k2⟩
end
end Go.Proofs.Yteibdplpbcobbaa
namespace Go.Proofs.Yteibdplpbcobbaa
open Go.RowKit Abs
theorem callKd_eq_ret {x : R} {v : AV} {h : AHeap} {kp k : AV → AHeap → R} {Q : ARes → AHeap → Prop} (e : x = some (.ret v, h)) (hk : Wp (k v h) Q) : Wp (callKd x kp k) Q := by rw [e, callKd_ret]; exact hk
theorem callKd_eq_pan {x : R} {v : AV} {h : AHeap} {kp k : AV → AHeap → R} {Q : ARes → AHeap → Prop} (e : x = some (.panic v, h)) (hk : Wp (kp v h) Q) : Wp (callKd x kp k) Q := by rw [e, callKd_panic]; exact hk
theorem dynQ (call : CallF) (a b c : Nat) (h : AHeap) : dynC Try.prog call (AV.fn 36 [] [.ptr a 0, .ptr b 0, .ptr c 0]) [] h = call 36 [.ptr a 0, .ptr b 0, .ptr c 0] h := by
 have e : callV Try.prog h [] (some (AV.fn 36 [] [.ptr a 0, .ptr b 0, .ptr c 0])) = some (.call 36 [.ptr a 0, .ptr b 0, .ptr c 0], h) := by kernel_rfl
 unfold dynC
 rw [e]
theorem neqNil (h : AHeap) : opBin Try.prog h .neq 20 true (some .nifc) (some .nifc) = some (.val (.bool false), h) := by kernel_rfl
theorem neqPan (h : AHeap) (e : Int) (q : Nat) : opBin Try.prog h .neq 20 true (some (PanA e q)) (some .nifc) = some (.val (.bool true), h) := by kernel_rfl
theorem assertPan (h : AHeap) (e : Int) (q : Nat) : opAssert Try.prog h 91 true (some (PanA e q)) = some (.val (.tup [.agg [.int .i64 e, .int .i64 (q : Int)], .bool true]), h) := by kernel_rfl
abbrev TPtr : Nat := 68
abbrev TSpot : Nat := 27
section
variable {n d pc rd ft tx mo : Nat} {h h0 : AHeap} {u t : Bytes} {most : Int} {fc : List AV} {S : List Nat} {Q : ARes → AHeap → Prop} {ys : List RowT}
noncomputable abbrev rowsQ (pc rd ft tx mo p : Nat) (u t : Bytes) (most : Int) (fc : List AV) : List RowT := [(pc, TPtr, [.ptr rd 0]), (rd, 70, rdP u p), (ft, TSpot, fc), (tx, 9, [strA t]), (mo, 3, [.int .i64 most])]
theorem q1_r (Mx : Mem S h0 h (rowsQ pc rd ft tx mo 0 u t most fc)) (hu : u.length ≤ 1000000) (hn : u.length + 20 < n) (hxB : memB TBld h0.ex = true) (hx8 : memB TU8 h0.ex = false) : match quotedQ u most with
  | .ok l q => ∃ h', world n (d + 7) 36 [.ptr pc 0, .ptr mo 0, .ptr tx 0] h = some (.ret (.tup []), h') ∧ Mem S h0 h' (rowsQ pc rd ft tx mo q u l most fc)
  | .bad e q => ∃ h' p, world n (d + 7) 36 [.ptr pc 0, .ptr mo 0, .ptr tx 0] h = some (.panic (PanA e q), h') ∧ Mem S h0 h' (rowsQ pc rd ft tx mo p u t most fc) := by
 have hq := quoted_r (n := n) (d := d) Mx.at1.1 Mx.at1.2.1 hu hn most (by rw [Mx.ex]; exact hxB) (by rw [Mx.ex]; exact hx8)
 cases hs : quotedQ u most with
 | ok l q =>
  rw [hs] at hq
  apply Wp.ex
  rw [w_pattern_Quoted_1]
  unfold pattern_Quoted_1
  repeat (first | ((with_reducible apply Wp.obind); (with_reducible exact avInt_int _ _)) | ((with_reducible apply Wp.ld0 Mx); rfl) | ((with_reducible apply Wp.ld4 Mx); rfl))
  refine Wp.stepK hq fun h1 k1 t1 => ?_
  have Mz : Mem S h0 h1 (rowsQ pc rd ft tx mo q u t most fc) := Mem.upd (xs := [_]) Mx t1 k1
  clear Mx
  have Mx := Mz
  clear Mz
  repeat (first | ((with_reducible apply Wp.obind); (with_reducible exact avStr_str _)) | ((with_reducible apply Wp.ms3 Mx); exact Nat.le_of_ble_eq_true rfl; rfl; intro _ Mz; clear Mx; have Mx := Mz; clear Mz))
  exact Wp.ret ⟨rfl, Mx⟩
 | bad e q =>
  rw [hs] at hq
  suffices hK : Wp (world n (d + 7) 36 [.ptr pc 0, .ptr mo 0, .ptr tx 0] h) fun r h' => r = .panic (PanA e q) ∧ ∃ p, Mem S h0 h' (rowsQ pc rd ft tx mo p u t most fc) by
   obtain ⟨_, h', e1, rfl, p, k⟩ := hK
   exact ⟨h', p, e1, k⟩
  rw [w_pattern_Quoted_1]
  unfold pattern_Quoted_1
  repeat (first | ((with_reducible apply Wp.obind); (with_reducible exact avInt_int _ _)) | ((with_reducible apply Wp.ld0 Mx); rfl) | ((with_reducible apply Wp.ld4 Mx); rfl))
  exact Wp.stepE hq fun h1 p k1 t1 => ⟨rfl, p, Mem.upd (xs := [_]) Mx t1 k1⟩
theorem recov_nil {call : CallF} {b : Nat} {H : AHeap} : pattern_guard_1_d call n (.ptr b 0) .nifc H = some (.ret (.tup []), H) := by
 apply Wp.eq
 unfold pattern_guard_1_d
 repeat (first | (with_reducible refine Wp.join0 (fun _ _ => ?_)) | ((with_reducible apply Wp.obind); (with_reducible exact avBool_bool _)) | ((with_reducible refine Wp.iff ?_ ?_); (with_reducible rfl)) | ((with_reducible apply Wp.outK); (with_reducible exact neqNil _)) | (with_reducible refine Wp.go0 (by assumption) ?_))
 exact Wp.ret ⟨rfl, rfl⟩
theorem recov_pan {call : CallF} {b : Nat} {H : AHeap} {l : List AV} (hl : l.length = 2) (Mx : Mem S h0 H ((b, TSpot, l) :: ys)) (e : Int) (q : Nat) : ∃ H', pattern_guard_1_d call n (.ptr b 0) (PanA e q) H = some (.ret (.tup []), H') ∧ Mem S h0 H' ((b, TSpot, [.int .i64 e, .int .i64 (q : Int)]) :: ys) := by
 apply Wp.ex
 unfold pattern_guard_1_d
 repeat (first | ((with_reducible apply Wp.obind); (with_reducible exact avBool_bool _)) | ((with_reducible apply Wp.lr0 Mx); rfl) | ((with_reducible apply Wp.sa0 Mx); rfl; rfl; (rfl); intro _ Mz; clear Mx; have Mx := Mz; clear Mz) | ((with_reducible apply Wp.mnew Mx); intro _ Mz; clear Mx; have Mx := Mz; clear Mz) | (with_reducible refine Wp.join0 (fun _ _ => ?_)) | (with_reducible refine Wp.lett ?_) | ((with_reducible apply Wp.obind); (with_reducible first | exact avAgg_agg _ | exact extT_0 _ _ | exact extT_1 _ _ _)) | ((with_reducible refine Wp.ift ?_ ?_); (with_reducible rfl)) | ((with_reducible refine Wp.iff ?_ ?_); (with_reducible exact Bool.not_true)) | ((with_reducible apply Wp.outK); (with_reducible first | exact neqPan _ _ _ | exact assertPan _ _ _)) | (with_reducible refine Wp.go0 (by assumption) ?_) | rw [newP_eq])
 refine Wp.sa1 Mx rfl hl rfl (fun h' M' => ?_)
 repeat ((with_reducible refine Wp.go0 (by assumption) ?_))
 exact Wp.ret ⟨rfl, M'.pop⟩
theorem guard_r (Mx : Mem S h0 h (rowsQ pc rd ft tx mo 0 u t most fc)) (hu : u.length ≤ 1000000) (hn : u.length + 20 < n) (hxB : memB TBld h0.ex = true) (hx8 : memB TU8 h0.ex = false) : match quotedQ u most with
  | .ok l q => ∃ h', world n (d + 8) 35 [AV.fn 36 [] [.ptr pc 0, .ptr mo 0, .ptr tx 0]] h = some (.ret (.agg [.int .i64 0, .int .i64 0]), h') ∧ Mem S h0 h' (rowsQ pc rd ft tx mo q u l most fc)
  | .bad e q => ∃ h', world n (d + 8) 35 [AV.fn 36 [] [.ptr pc 0, .ptr mo 0, .ptr tx 0]] h = some (.ret (.agg [.int .i64 e, .int .i64 (q : Int)]), h') ∧ ∃ p, Mem S h0 h' (rowsQ pc rd ft tx mo p u t most fc) := by
 have Mb := (Mx.newH TSpot [.int .i64 0, .int .i64 0])
 have M1 : Mem (S := (rowsQ pc rd ft tx mo 0 u t most fc).map (·.1)) (newH h TSpot [.int .i64 0, .int .i64 0]) (newH h TSpot [.int .i64 0, .int .i64 0]) (rowsQ pc rd ft tx mo 0 u t most fc) := Mb.pop.base
 have hq := q1_r (n := n) (d := d) M1 hu hn (by show memB TBld h.ex = true; rw [Mx.ex]; exact hxB) (by show memB TU8 h.ex = false; rw [Mx.ex]; exact hx8)
 have back : ∀ {h' : AHeap} {rs : List RowT}, Mem ((rowsQ pc rd ft tx mo 0 u t most fc).map (·.1)) (newH h TSpot [.int .i64 0, .int .i64 0]) h' rs → Mem S h0 h' ((h.next, TSpot, [.int .i64 0, .int .i64 0]) :: rs) := fun M2 => by
  have := Mem.frame (xs := rowsQ pc rd ft tx mo 0 u t most fc) (rs := [(h.next, TSpot, [AV.int .i64 0, AV.int .i64 0])]) (Mb.perm List.perm_append_comm) M2
  exact this.perm (by simpa using (List.perm_append_comm (l₁ := [(h.next, TSpot, [AV.int .i64 0, AV.int .i64 0])])))
 cases hs : quotedQ u most with
 | ok l q =>
  rw [hs] at hq
  obtain ⟨h1, e1, M2⟩ := hq
  have Mx := back M2
  apply Wp.ex
  rw [w_pattern_guard]
  unfold pattern_guard
  refine Wp.lett ?_
  refine callKd_eq_ret ((dynQ _ _ _ _ _).trans e1) ?_
  repeat (first | ((with_reducible apply Wp.lr0 Mx); rfl) | ((with_reducible apply Wp.sa0 Mx); rfl; rfl; (rfl); intro _ Mz; clear Mx; have Mx := Mz; clear Mz) | ((with_reducible apply Wp.callN); (with_reducible exact recov_nil)) | rw [newP_eq])
  exact Wp.ret ⟨rfl, Mx.pop⟩
 | bad e q =>
  rw [hs] at hq
  obtain ⟨h1, p, e1, M2⟩ := hq
  have Mx := back M2
  apply Wp.ex
  rw [w_pattern_guard]
  unfold pattern_guard
  refine Wp.lett ?_
  refine callKd_eq_pan ((dynQ _ _ _ _ _).trans e1) ?_
  rw [newP_eq]
  obtain ⟨h2, e2, M3⟩ := recov_pan (n := n) (call := world n (d + 7)) rfl Mx e q
  refine Wp.callN e2 ?_
  clear Mx
  have Mx := M3
  repeat (((with_reducible apply Wp.lr0 Mx); rfl))
  exact Wp.ret ⟨rfl, p, Mx.pop⟩
def quotedV (u : Bytes) (most : Int) : Bytes × Int × Int × Int := match quotedQ u most with
 | .ok l q => (l, (q : Int), 0, 0)
 | .bad e q => ([], 0, e, (q : Int))
theorem scanQ_err : ∀ (fuel p : Nat) (acc : Bytes) {e : Int} {q : Nat}, scanQ u most fuel p acc = .bad e q → e ≠ 0
 | 0, p, acc, e, q, hh => by
  rw [scanQ] at hh
  cases hh
  decide
 | fuel + 1, p, acc, e, q, hh => by
  rw [scanQ] at hh
  split at hh
  ·cases hh
  ·split at hh
   ·cases hh
    decide
   ·split at hh
    ·exact scanQ_err fuel _ _ hh
    ·cases hh
     decide
theorem quotedQ_err {e : Int} {q : Nat} (hh : quotedQ u most = .bad e q) : e ≠ 0 := by
 unfold quotedQ at hh
 split at hh
 ·exact scanQ_err _ _ _ hh
 ·cases hh
  decide
set_option maxRecDepth 100000 in
theorem pQuoted_w (hu : u.length ≤ 1000000) (hn : u.length + 20 < n) (hxB : memB TBld h.ex = true) (hx8 : memB TU8 h.ex = false) : world n (d + 9) 19 [strA u, .int .i64 most] h = some (.ret (.tup [strA (quotedV u most).1, .int .i64 (quotedV u most).2.1, .agg [.int .i64 (quotedV u most).2.2.1, .int .i64 (quotedV u most).2.2.2]]), h) := by
 apply Wp.eq
 rw [w_pattern_Quoted]
 refine Wp.gc ?_
 suffices hK : Wp (pattern_Quoted (world n (d + 8)) n u most h) fun r h' => r = .ret (.tup [strA (quotedV u most).1, .int .i64 (quotedV u most).2.1, .agg [.int .i64 (quotedV u most).2.2.1, .int .i64 (quotedV u most).2.2.2]]) ∧ Tch [] h h' from hK.mono fun r h' ⟨e, t⟩ => ⟨t.above, by rw [e]; rfl, e, rfl⟩
 unfold pattern_Quoted
 have Mx := Mem.nil [] h
 repeat (first | ((with_reducible apply Wp.sa0 Mx); rfl; rfl; (rfl); intro _ Mz; clear Mx; have Mx := Mz; clear Mz) | ((with_reducible apply Wp.mnew Mx); intro _ Mz; clear Mx; have Mx := Mz; clear Mz) | ((with_reducible apply Wp.mbox Mx); (rfl); intro _ Mz; clear Mx; have Mx := Mz; clear Mz) | rw [newP_eq])
 have Mz : Mem [] h _ (rowsQ _ _ _ _ _ 0 u [] most [.int .i64 0, .int .i64 0]) := Mx
 have hg := guard_r (n := n) (d := d) Mz hu hn hxB hx8
 unfold quotedV
 cases hs : quotedQ u most with
 | ok l q =>
  rw [hs] at hg
  obtain ⟨h1, e1, M1⟩ := hg
  refine Wp.callN e1 ?_
  clear Mx
  have Mx := M1
  repeat (first | ((with_reducible apply Wp.obind); (with_reducible first | exact avInt_int _ _ | exact avStr_str _ | exact nilC_ptr _ _ | exact fldP_ptr _ _ _)) | ((with_reducible apply Wp.ld0 Mx); rfl) | ((with_reducible apply Wp.ld1 Mx); rfl) | ((with_reducible apply Wp.ld2 Mx); rfl) | ((with_reducible apply Wp.lr2 Mx); rfl) | ((with_reducible apply Wp.sa2 Mx); rfl; rfl; (rfl); intro _ Mz; clear Mx; have Mx := Mz; clear Mz) | ((with_reducible apply Wp.ld3 Mx); rfl) | ((with_reducible apply Wp.ms3 Mx); exact Nat.le_of_ble_eq_true rfl; rfl; intro _ Mz; clear Mx; have Mx := Mz; clear Mz) | ((with_reducible refine Wp.chk ?_ ?_); focus ((repeat' (first | (with_reducible exact rfl) | (with_reducible apply and_t) | ((with_reducible apply Mem.re0 Mx); kernel_rfl; rfl) | ((with_reducible apply Mem.re1 Mx); kernel_rfl; rfl) | ((with_reducible apply Mem.rr2 Mx); kernel_rfl; kernel_rfl))); done)) | (with_reducible refine Wp.lett ?_) | ((with_reducible apply Wp.obind); (with_reducible exact avAgg_agg _)) | ((with_reducible refine Wp.iff ?_ ?_); ((with_reducible apply bne_f); omega)))
  exact Wp.ret ⟨rfl, Mx.tch⟩
 | bad e q =>
  rw [hs] at hg
  have he := quotedQ_err hs
  obtain ⟨h1, e1, p, M1⟩ := hg
  refine Wp.callN e1 ?_
  clear Mx
  have Mx := M1
  repeat (first | ((with_reducible apply Wp.obind); (with_reducible exact avInt_int _ _)) | ((with_reducible apply Wp.ld2 Mx); rfl) | ((with_reducible apply Wp.lr2 Mx); rfl) | ((with_reducible apply Wp.sa2 Mx); rfl; rfl; (rfl); intro _ Mz; clear Mx; have Mx := Mz; clear Mz) | ((with_reducible apply Wp.ld3 Mx); rfl) | ((with_reducible apply Wp.ms3 Mx); exact Nat.le_of_ble_eq_true rfl; rfl; intro _ Mz; clear Mx; have Mx := Mz; clear Mz) | ((with_reducible refine Wp.chk ?_ ?_); focus ((repeat' (first | (with_reducible exact rfl) | (with_reducible apply and_t) | ((with_reducible apply Mem.rr2 Mx); kernel_rfl; kernel_rfl))); done)) | (with_reducible refine Wp.lett ?_) | ((with_reducible apply Wp.obind); (with_reducible exact avAgg_agg _)) | ((with_reducible refine Wp.ift ?_ ?_); ((with_reducible apply bne_t); omega)))
  exact Wp.ret ⟨rfl, Mx.tch⟩
def unquoteV (u : Bytes) : Bytes × Int × Int := match quotedQ u (-1) with
 | .ok l q => if q < u.length then ([], 6, (q : Int)) else (l, 0, 0)
 | .bad e q => ([], e, (q : Int))
set_option maxRecDepth 100000 in
theorem pUnquote_w (hu : u.length ≤ 1000000) (hn : u.length + 20 < n) (hxB : memB TBld h.ex = true) (hx8 : memB TU8 h.ex = false) : world n (d + 10) 16 [strA u] h = some (.ret (.tup [strA (unquoteV u).1, .agg [.int .i64 (unquoteV u).2.1, .int .i64 (unquoteV u).2.2]]), h) := by
 apply Wp.eq
 rw [w_pattern_Unquote]
 refine Wp.gc ?_
 suffices hK : Wp (pattern_Unquote (world n (d + 9)) n u h) fun r h' => r = .ret (.tup [strA (unquoteV u).1, .agg [.int .i64 (unquoteV u).2.1, .int .i64 (unquoteV u).2.2]]) ∧ Tch [] h h' from hK.mono fun r h' ⟨e, t⟩ => ⟨t.above, by rw [e]; rfl, e, rfl⟩
 unfold pattern_Unquote
 have Mx := Mem.nil [] h
 have ll := lenS_nat u
 repeat (first | ((with_reducible apply Wp.mnew Mx); intro _ Mz; clear Mx; have Mx := Mz; clear Mz) | rw [newP_eq])
 have hq := pQuoted_w (n := n) (d := d) (h := _) (most := -1) hu hn (by rw [Mx.ex]; exact hxB) (by rw [Mx.ex]; exact hx8)
 unfold quotedV at hq
 unfold unquoteV
 cases hs : quotedQ u (-1) with
 | ok l q =>
  rw [hs] at hq
  dsimp only at hq ⊢
  by_cases hl : q < u.length
  ·rw [if_pos hl]
   refine Wp.callN hq ?_
   repeat (first | ((with_reducible apply Wp.obind); (with_reducible first | exact avInt_int _ _ | exact avStr_str _)) | ((with_reducible apply Wp.ld0 Mx); rfl) | ((with_reducible apply Wp.sa0 Mx); rfl; rfl; (rfl); intro _ Mz; clear Mx; have Mx := Mz; clear Mz) | ((with_reducible apply Wp.lr1 Mx); rfl) | ((with_reducible apply Wp.sa1 Mx); rfl; rfl; (rfl); intro _ Mz; clear Mx; have Mx := Mz; clear Mz) | ((with_reducible apply Wp.mnew Mx); intro _ Mz; clear Mx; have Mx := Mz; clear Mz) | (with_reducible refine Wp.lett ?_) | ((with_reducible apply Wp.obind); (with_reducible first | exact avAgg_agg _ | exact extT_0 _ _ | exact extT_1 _ _ _ | exact extT_2 _ _ _ _)) | ((with_reducible refine Wp.ift ?_ ?_); ((with_reducible first | apply decide_eq_true | apply bne_t); omega)) | ((with_reducible refine Wp.iff ?_ ?_); ((with_reducible apply bne_f); omega)) | rw [newP_eq])
   exact Wp.ret ⟨rfl, Mx.tch⟩
  ·rw [if_neg hl]
   refine Wp.callN hq ?_
   repeat (first | ((with_reducible apply Wp.obind); (with_reducible first | exact avInt_int _ _ | exact avStr_str _)) | ((with_reducible apply Wp.ld0 Mx); rfl) | ((with_reducible apply Wp.sa0 Mx); rfl; rfl; (rfl); intro _ Mz; clear Mx; have Mx := Mz; clear Mz) | ((with_reducible apply Wp.lr1 Mx); rfl) | ((with_reducible apply Wp.sa1 Mx); rfl; rfl; (rfl); intro _ Mz; clear Mx; have Mx := Mz; clear Mz) | ((with_reducible apply Wp.mnew Mx); intro _ Mz; clear Mx; have Mx := Mz; clear Mz) | (with_reducible refine Wp.lett ?_) | ((with_reducible apply Wp.obind); (with_reducible first | exact avAgg_agg _ | exact extT_0 _ _ | exact extT_1 _ _ _ | exact extT_2 _ _ _ _)) | ((with_reducible refine Wp.iff ?_ ?_); ((with_reducible first | apply decide_eq_false | apply bne_f); omega)) | rw [newP_eq])
   exact Wp.ret ⟨rfl, Mx.tch⟩
 | bad e q =>
  rw [hs] at hq
  dsimp only at hq ⊢
  have he := quotedQ_err hs
  refine Wp.callN hq ?_
  repeat (first | ((with_reducible apply Wp.obind); (with_reducible first | exact avInt_int _ _ | exact avStr_str _)) | ((with_reducible apply Wp.ld0 Mx); rfl) | ((with_reducible apply Wp.lr0 Mx); rfl) | ((with_reducible apply Wp.sa0 Mx); rfl; rfl; (rfl); intro _ Mz; clear Mx; have Mx := Mz; clear Mz) | ((with_reducible apply Wp.lr1 Mx); rfl) | ((with_reducible apply Wp.sa1 Mx); rfl; rfl; (rfl); intro _ Mz; clear Mx; have Mx := Mz; clear Mz) | ((with_reducible apply Wp.mnew Mx); intro _ Mz; clear Mx; have Mx := Mz; clear Mz) | (with_reducible refine Wp.lett ?_) | ((with_reducible apply Wp.obind); (with_reducible first | exact avAgg_agg _ | exact extT_0 _ _ | exact extT_1 _ _ _ | exact extT_2 _ _ _ _)) | ((with_reducible refine Wp.ift ?_ ?_); ((with_reducible apply bne_t); omega)) | rw [newP_eq])
  exact Wp.ret ⟨rfl, Mx.tch⟩
end
section
variable {n d p : Nat} {h h0 : AHeap} {u : Bytes} {Q : ARes → AHeap → Prop} {S : List Nat}
end
section
variable {n d b c c1 : Nat} {h h1 h2 : AHeap} {l u : Bytes} {Q : ARes → AHeap → Prop}
theorem tch2 (t1 : Tch [b, c] h h1) (hc : c1 = c ∨ h.next ≤ c1) (t2 : Tch [b, c1] h1 h2) : Tch [b, c] h h2 :=
 t1.trans' t2 (fun x hx => by
  rcases List.mem_cons.1 hx with rfl | hx
  ·exact .inl (by simp)
  ·rcases List.mem_cons.1 hx with rfl | hx
   ·rcases hc with rfl | hc
    ·exact .inl (by simp)
    ·exact .inr hc
   ·cases hx)
theorem writeString_r (k : BldW h b c l) (hx : memB TBld h.ex = true) (hu : memB TU8 h.ex = false) (s : Bytes) (hbig : l.length + s.length ≤ 1000000000) :
  ∃ c' h', world n (d + 2) 52 [.ptr b 0, strA s] h = some (.ret (.tup [.int .i64 (lenS s), .nifc]), h') ∧ BldW h' b c' (l ++ s) ∧ (c' = c ∨ h.next ≤ c') ∧ Tch [b, c] h h' := by
 obtain ⟨h1, e1, q1, t1⟩ := copyCheck_r (n := n) (d := d) k hx
 suffices hK : Wp (world n (d + 2) 52 [.ptr b 0, strA s] h) fun r h' => ∃ c', r = .ret (.tup [.int .i64 (lenS s), .nifc]) ∧ BldW h' b c' (l ++ s) ∧ (c' = c ∨ h.next ≤ c') ∧ Tch [b, c] h h' by
  obtain ⟨_, h', e, c', rfl, q⟩ := hK
  exact ⟨c', h', e, q⟩
 rw [w_strings_Builder_WriteString]
 unfold strings_Builder_WriteString
 refine Wp.callN e1 ?_
 obtain ⟨a, buf, k1, k2, k3, k4⟩ := q1
 repeat (((with_reducible apply Wp.obind); first | (with_reducible first | exact nilC_ptr _ _ | exact fldP_ptr _ _ _) | ((with_reducible apply RowH.cell'); (with_reducible assumption); rfl)))
 obtain ⟨buf', c', h2, a1, a2, a3, a4, a5⟩ := k4.append (P := Try.prog) (t := 50) (u := 9) k2 s (by kernel_rfl) (by kernel_rfl) (by kernel_rfl) (by kernel_rfl) (by rw [t1.2.1]; exact hu) hbig
 refine Wp.outK a1 ?_
 have k2' : RowH h2 b TBld [a, buf] := k1.same a5
 obtain ⟨o1, o2, _⟩ := a2.one
 rw [o2]
 repeat (((with_reducible apply Wp.obind); (with_reducible first | exact nilC_ptr _ _ | exact fldP_ptr _ _ _)))
 refine Wp.st1 k2' (by simp) o1 (fun h3 r1 r2 r3 => ?_)
 have n1 := t1.1
 have n2 := a4.1
 refine Wp.ret ⟨c', rfl, ⟨a, buf', r1, by omega, k3, a2.tch r2 (fun hc => by simpa using hc)⟩, by omega, ?_⟩
 exact (t1.mono (by simp)).trans ((a4.mono (by simp)).trans (r2.mono (by simp)))
theorem hx_idx (v : Nat) (hv : v < 16) : idxS ([48, 49, 50, 51, 52, 53, 54, 55, 56, 57, 97, 98, 99, 100, 101, 102] : Bytes) (v : Int) = some (((if v < 10 then 48 + v else 87 + v : Nat)) : Int) := by
 have h : ∀ v : Fin 16, idxS ([48, 49, 50, 51, 52, 53, 54, 55, 56, 57, 97, 98, 99, 100, 101, 102] : Bytes) (v.val : Int) = some (((if v.val < 10 then 48 + v.val else 87 + v.val : Nat)) : Int) := by decide
 exact h ⟨v, hv⟩
theorem shr4 (y : Nat) : shrI .u8 (y : Int) 4 = some ((y / 16 : Nat) : Int) := by
 rw [show shrI .u8 (y : Int) 4 = some ((y : Int).fdiv 16) from rfl, Int.fdiv_eq_ediv_of_nonneg _ (by decide)]
 rfl
theorem and15 {y : Nat} (hy : y < 256) : andI .u8 (y : Int) 15 = ((y % 16 : Nat) : Int) := by
 have h : (List.range 256).all (fun y => andI .u8 (y : Int) 15 == ((y % 16 : Nat) : Int)) = true := by kernel_rfl
 exact eq_of_beq (List.all_eq_true.1 h y (List.mem_range.2 hy))
theorem sign_short {y : Nat} (h : shortB y ≠ 0) : signB y = [92, UInt8.ofNat (shortB y)] ∧ shortB y < 256 := by
 unfold shortB at h ⊢
 unfold signB
 by_cases h1 : y = 34
 ·subst h1
  exact ⟨rfl, by decide⟩
 by_cases h2 : y = 92
 ·subst h2
  exact ⟨rfl, by decide⟩
 rw [if_neg (by omega)] at h ⊢
 by_cases h3 : y = 10
 ·subst h3
  exact ⟨rfl, by decide⟩
 rw [if_neg h3] at h ⊢
 by_cases h4 : y = 13
 ·subst h4
  exact ⟨rfl, by decide⟩
 rw [if_neg h4] at h ⊢
 by_cases h5 : y = 9
 ·subst h5
  exact ⟨rfl, by decide⟩
 rw [if_neg h5] at h
 exact absurd rfl h
theorem sign_long {y : Nat} (h : shortB y = 0) : signB y = if plainB y = true then [UInt8.ofNat y] else [92, 120, hx (y / 16), hx (y % 16)] := by
 unfold shortB at h
 unfold signB
 split at h
 ·omega
 ·split at h
  ·omega
  ·split at h
   ·omega
   ·split at h
    ·omega
    ·rw [if_neg (by omega), if_neg (by omega), if_neg (by omega), if_neg (by omega), if_neg (by omega)]
theorem writeForm_r (k : BldW h b c l) (hx' : memB TBld h.ex = true) (hu : memB TU8 h.ex = false) {y : Nat} (hy : y < 256) (hbig : l.length + 4 ≤ 1000000000) :
  ∃ c' h', world n (d + 3) 30 [.ptr b 0, .int .u8 (y : Int)] h = some (.ret (.tup []), h') ∧ BldW h' b c' (l ++ signB y) ∧ (c' = c ∨ h.next ≤ c') ∧ Tch [b, c] h h' := by
 suffices hK : Wp (world n (d + 3) 30 [.ptr b 0, .int .u8 (y : Int)] h) fun r h' => ∃ c', r = .ret (.tup []) ∧ BldW h' b c' (l ++ signB y) ∧ (c' = c ∨ h.next ≤ c') ∧ Tch [b, c] h h' by
  obtain ⟨_, h', e, c', rfl, q⟩ := hK
  exact ⟨c', h', e, q⟩
 rw [w_pattern_writeForm]
 unfold pattern_writeForm
 have hs := short_w (n := n) (d := d + 1) (h := h) y
 have hp := plain_w (n := n) (d := d + 1) (h := h) y
 by_cases h0 : shortB y = 0
 ·have hsg := sign_long h0
  rw [h0] at hs
  cases hpl : plainB y with
  | true =>
   rw [hpl] at hp hsg
   rw [if_pos rfl] at hsg
   obtain ⟨c1, h1, e1, q1, o1, t1⟩ := writeByte_r (n := n) (d := d) k hx' hu hy (by omega)
   repeat (first | (with_reducible refine Wp.lett ?_) | ((with_reducible apply Wp.obind); (with_reducible first | exact avInt_int _ _ | exact avBool_bool _)) | ((with_reducible refine Wp.ift ?_ ?_); (with_reducible rfl)) | ((with_reducible refine Wp.iff ?_ ?_); ((with_reducible apply bne_f); omega)) | ((with_reducible apply Wp.callN); (with_reducible first | exact hs | exact hp | exact e1)))
   exact Wp.ret ⟨c1, rfl, by rw [hsg]; exact q1, o1, t1⟩
  | false =>
   rw [hpl] at hp hsg
   rw [if_neg (by decide)] at hsg
   obtain ⟨c1, h1, e1, q1, o1, t1⟩ := writeString_r (n := n) (d := d) k hx' hu [92, 120] (by simp; omega)
   obtain ⟨c2, h2, e2, q2, o2, t2⟩ := writeByte_r (n := n) (d := d) (y := if y / 16 < 10 then 48 + y / 16 else 87 + y / 16) q1 (by rw [t1.2.1]; exact hx') (by rw [t1.2.1]; exact hu) (by split <;> omega) (by simp; omega)
   obtain ⟨c3, h3, e3, q3, o3, t3⟩ := writeByte_r (n := n) (d := d) (y := if y % 16 < 10 then 48 + y % 16 else 87 + y % 16) q2 (by rw [t2.2.1, t1.2.1]; exact hx') (by rw [t2.2.1, t1.2.1]; exact hu) (by split <;> omega) (by simp; omega)
   have i1 := hx_idx (y / 16) (by omega)
   have i2 := hx_idx (y % 16) (by omega)
   have s4 := shr4 y
   have a5 := and15 hy
   iterate 7 (first | (with_reducible refine Wp.lett ?_) | ((with_reducible apply Wp.obind); (with_reducible first | exact avInt_int _ _ | exact avBool_bool _)) | ((with_reducible refine Wp.iff ?_ ?_); first | (with_reducible rfl) | ((with_reducible apply bne_f); omega)) | ((with_reducible apply Wp.callN); (with_reducible first | exact hs | exact hp)))
   rw [a5]
   repeat (first | (with_reducible refine Wp.lett ?_) | ((with_reducible apply Wp.obind); (with_reducible first | exact i1 | exact i2 | exact s4)) | ((with_reducible apply Wp.callN); (with_reducible first | exact e1 | exact e2 | exact e3)))
   have n1 := t1.1
   have n2 := t2.1
   refine Wp.ret ⟨c3, rfl, ?_, by omega, tch2 t1 o1 (tch2 t2 o2 t3)⟩
   rw [hsg]
   simpa [hx] using q3
 ·obtain ⟨hsg, hlt⟩ := sign_short h0
  obtain ⟨c1, h1, e1, q1, o1, t1⟩ := writeByte_r (n := n) (d := d) (y := 92) k hx' hu (by decide) (by omega)
  obtain ⟨c2, h2, e2, q2, o2, t2⟩ := writeByte_r (n := n) (d := d) (y := shortB y) q1 (by rw [t1.2.1]; exact hx') (by rw [t1.2.1]; exact hu) hlt (by simp; omega)
  rw [show ((92 : Nat) : Int) = 92 from rfl] at e1
  repeat (first | (with_reducible refine Wp.lett ?_) | ((with_reducible apply Wp.obind); (with_reducible exact avInt_int _ _)) | ((with_reducible refine Wp.ift ?_ ?_); ((with_reducible apply bne_t); omega)) | ((with_reducible apply Wp.callN); (with_reducible first | exact hs | exact e1 | exact e2)))
  have n1 := t1.1
  refine Wp.ret ⟨c2, rfl, ?_, by omega, tch2 t1 o1 t2⟩
  rw [hsg]
  simpa using q2
def quoteB (u : Bytes) : Bytes := 34 :: (u.flatMap fun a => signB a.toNat) ++ [34]
theorem sign_len (c : Nat) : (signB c).length ≤ 4 := by
 rcases cls c with ⟨e, h, _⟩ | ⟨h, _⟩ | ⟨h, _⟩ <;> rw [h] <;> simp
theorem flat_len (w : Bytes) : (w.flatMap fun a => signB a.toNat).length ≤ 4 * w.length := by
 induction w with
 | nil => simp
 | cons a w ih =>
  rw [List.flatMap_cons, List.length_append, List.length_cons]
  have := sign_len a.toNat
  omega
theorem quote_loop {k11 : AHeap → R} {hb h0 : AHeap} (hu' : u.length ≤ 100000000) :
  ∀ (f i : Nat) (c : Nat) (H : AHeap), u.length < f + i → i ≤ u.length → BldW H hb.next c (34 :: ((u.take i).flatMap fun a => signB a.toNat)) → Tch [hb.next, c] h0 H → memB TBld H.ex = true → memB TU8 H.ex = false → h0.next ≤ hb.next → h0.next ≤ c →
   (∀ c' H', BldW H' hb.next c' (34 :: (u.flatMap fun a => signB a.toNat)) → Tch [] h0 H' → memB TBld H'.ex = true → memB TU8 H'.ex = false → h0.next ≤ c' → Wp (k11 H') Q) →
   Wp (pattern_Quote_L0 (world n (d + 3)) u hb k11 f (i : Int) H) Q
 | 0, i, c, H, hf, hi, k, t, hx', hu, hn1, hn2, hk => by omega
 | f + 1, i, c, H, hf, hi, k, t, hx', hu, hn1, hn2, hk => by
  rw [pattern_Quote_L0_s]
  unfold pattern_Quote_L0b
  have lu := lenS_nat u
  by_cases hl : i < u.length
  ·have hx : idxS u (i : Int) = some ((u[i]).toNat : Int) := idxS_nat hl
   have hfl := flat_len (u.take i)
   rw [List.length_take] at hfl
   obtain ⟨c1, h1, e1, q1, o1, t1⟩ := writeForm_r (n := n) (d := d) k hx' hu (y := (u[i]).toNat) (u[i]).toNat_lt (by simp only [List.length_cons]; omega)
   repeat (first | ((with_reducible refine Wp.lettw ?_ ?_ ?_); omega; omega) | (with_reducible refine Wp.lett ?_) | ((with_reducible apply Wp.obind); (with_reducible exact hx)) | ((with_reducible refine Wp.ift ?_ ?_); ((with_reducible apply decide_eq_true); omega)) | ((with_reducible apply Wp.callN); (with_reducible exact e1)) | rw [newP_eq])
   rw [show (i : Int) + 1 = ((i + 1 : Nat) : Int) by omega]
   have nt := t.1
   have nt1 := t1.1
   refine quote_loop hu' f (i + 1) c1 h1 (by omega) (by omega) ?_ ?_ (by rw [t1.2.1]; exact hx') (by rw [t1.2.1]; exact hu) hn1 (by omega) hk
   ·rw [List.take_succ_eq_append_getElem hl, List.flatMap_append]
    simpa using q1
   ·exact (t.mono (S' := []) (by intro b hb; simp at hb; omega)).trans' t1 (by intro b hb; simp at hb; omega)|>.mono (by simp)
  ·have hi' : i = u.length := by omega
   rw [hi', List.take_length] at k
   repeat (first | (with_reducible refine Wp.lett ?_) | ((with_reducible refine Wp.iff ?_ ?_); ((with_reducible apply decide_eq_false); omega)))
   exact hk c H k (t.mono (by intro b hb; simp at hb; omega)) hx' hu hn2
theorem quote_w (hu' : u.length ≤ 100000000) (hn : u.length < n) (hxB : memB TBld h.ex = true) (hx8 : memB TU8 h.ex = false) : world n (d + 4) 15 [strA u] h = some (.ret (strA (quoteB u)), h) := by
 apply Wp.eq
 rw [w_pattern_Quote]
 refine Wp.gc ?_
 suffices hK : Wp (pattern_Quote (world n (d + 3)) n u h) fun r h' => r = .ret (strA (quoteB u)) ∧ Tch [] h h' from hK.mono fun r h' ⟨e, t⟩ => ⟨t.above, by rw [e]; rfl, e, rfl⟩
 unfold pattern_Quote
 have k0 := BldR.new TBld TU8 h
 have t0 : Tch [] h (newH h TBld [.nilp, .nsl]) := Tch.newH _ _ _ _
 obtain ⟨c1, h1, e1, q1, o1, t1⟩ := writeByte_r (n := n) (d := d + 1) (y := 34) k0 (by rw [t0.2.1]; exact hxB) (by rw [t0.2.1]; exact hx8) (by decide) (by simp)
 rw [show ((34 : Nat) : Int) = 34 from rfl] at e1
 refine Wp.lett ?_
 rw [newP_eq]
 refine Wp.callN e1 ?_
 refine Wp.join0 (fun k hk => ?_)
 have n0 := next_newH h TBld [.nilp, .nsl]
 have n1 := t1.1
 refine quote_loop (h0 := h) hu' n 0 c1 h1 (by omega) (by omega) (by simpa using q1) ?_ (by rw [t1.2.1, t0.2.1]; exact hxB) (by rw [t1.2.1, t0.2.1]; exact hx8) (Nat.le_refl _) (by omega) ?_
 ·exact ((t0.trans' t1 (S := []) (by intro b hb; simp at hb; omega))).mono (by simp)
 ·intro c2 H2 q2 t2 hxB2 hx82 hc2
  rw [hk]
  have hfl := flat_len u
  obtain ⟨c3, h3, e3, q3, o3, t3⟩ := writeByte_r (n := n) (d := d + 1) (y := 34) q2 hxB2 hx82 (by decide) (by simp only [List.length_cons]; omega)
  rw [show ((34 : Nat) : Int) = 34 from rfl] at e3
  obtain ⟨h4, e4, t4⟩ := string_r (n := n) (d := d + 2) q3 (by simp only [List.length_cons, List.length_append, List.length_nil]; omega)
  repeat (first | ((with_reducible apply Wp.obind); (with_reducible exact avStr_str _)) | ((with_reducible apply Wp.callN); (with_reducible first | exact e3 | exact e4)))
  have nt2 := t2.1
  refine Wp.ret ⟨rfl, ?_⟩
  exact (t2.trans' t3 (by intro b hb; simp at hb; omega)).trans' t4 (by intro b hb; simp at hb; omega)
end
def addW (w : List Nat) (c : Nat) : List Nat := w.set (c / 64) (w.getD (c / 64) 0 ||| 2 ^ (c % 64))
def spanW (w : List Nat) (lo : Nat) : Nat → List Nat
 | 0 => w
 | m + 1 => spanW (addW w lo) (lo + 1) m
def othersW (w : List Nat) : List Nat := w.map fun x => x ^^^ 18446744073709551615
def zeroW : List Nat := [0, 0, 0, 0]
structure WordsOk (w : List Nat) : Prop where
 len : w.length = 4
 small : ∀ x ∈ w, x < 18446744073709551616
theorem WordsOk.get {w : List Nat} (k : WordsOk w) (i : Nat) : w.getD i 0 < 18446744073709551616 := by
 rw [List.getD_eq_getElem?_getD]
 cases hx : w[i]? with
 | none => decide
 | some x => exact k.small x (List.mem_of_getElem? hx)
theorem zeroW_ok : WordsOk zeroW := ⟨rfl, by decide⟩
theorem or_small {a b : Nat} (ha : a < 18446744073709551616) (hb : b < 18446744073709551616) : a ||| b < 18446744073709551616 := by
 have := Nat.or_lt_two_pow (n := 64) (x := a) (y := b) (by omega) (by omega)
 omega
theorem pow_small {k : Nat} (h : k < 64) : 2 ^ k < 18446744073709551616 := by
 have := Nat.pow_lt_pow_right (a := 2) (by decide) h
 omega
theorem addW_ok {w : List Nat} (k : WordsOk w) (c : Nat) : WordsOk (addW w c) := by
 refine ⟨by simp [addW, k.len], fun x hx => ?_⟩
 unfold addW at hx
 rcases List.mem_or_eq_of_mem_set hx with hx | rfl
 ·exact k.small x hx
 ·exact or_small (k.get _) (pow_small (Nat.mod_lt _ (by decide)))
theorem spanW_ok : ∀ (m : Nat) {w : List Nat} (_ : WordsOk w) (lo : Nat), WordsOk (spanW w lo m)
 | 0, _, k, _ => k
 | m + 1, _, k, lo => spanW_ok m (addW_ok k lo) (lo + 1)
theorem othersW_ok {w : List Nat} (k : WordsOk w) : WordsOk (othersW w) := by
 refine ⟨by simp [othersW, k.len], fun x hx => ?_⟩
 unfold othersW at hx
 obtain ⟨y, hy, rfl⟩ := List.mem_map.1 hx
 have := Nat.xor_lt_two_pow (n := 64) (x := y) (y := 18446744073709551615) (by have := k.small y hy; omega) (by omega)
 omega
noncomputable def wordsA (w : List Nat) : List AV := w.map fun (x : Nat) => AV.int .u64 (x : Int)
theorem wordsA_len (w : List Nat) : (wordsA w).length = w.length := by simp [wordsA]
theorem wordsA_one (w : List Nat) : (wordsA w).all AV.one = true := by
 simp only [wordsA, List.all_map, List.all_eq_true]
 intro x _
 rfl
inductive Nd where
 | mk (op : Nat) (w : List Nat) (kids : List Nd)
abbrev TNode : Nat := 41
noncomputable def nodeC (op : Nat) (w : List Nat) (kv : AV) : List AV := .int .i64 (op : Int) :: (wordsA w ++ [kv])
mutual
inductive NodeT : Nd → List AV → List RowT → Prop
 | mk {op : Nat} {w : List Nat} {kids : List Nd} {kc : List (List AV)} {kv : AV} {T0 T1 : List RowT} (hw : WordsOk w) (g : GrowT TNode 6 kc kv T0) (k : KidsT kids kc T1) : NodeT (.mk op w kids) (nodeC op w kv) (T0 ++ T1)
inductive KidsT : List Nd → List (List AV) → List RowT → Prop
 | nil : KidsT [] [] []
 | cons {t : Nd} {c : List AV} {T : List RowT} {ts : List Nd} {cs : List (List AV)} {Ts : List RowT} (k : NodeT t c T) (ks : KidsT ts cs Ts) : KidsT (t :: ts) (c :: cs) (T ++ Ts)
end
theorem KidsT.snoc {t : Nd} {c : List AV} {T : List RowT} (h : NodeT t c T) : ∀ {ts : List Nd} {cs : List (List AV)} {Ts : List RowT}, KidsT ts cs Ts → KidsT (ts ++ [t]) (cs ++ [c]) (Ts ++ T)
 | _, _, _, .nil => by
  have := KidsT.cons h .nil
  rw [List.append_nil] at this
  exact this
 | _, _, _, .cons k ks => by
  have := KidsT.cons k (KidsT.snoc h ks)
  rw [← List.append_assoc] at this
  exact this
theorem KidsT.len : ∀ {ts : List Nd} {cs : List (List AV)} {Ts : List RowT}, KidsT ts cs Ts → cs.length = ts.length
 | _, _, _, .nil => rfl
 | _, _, _, .cons _ ks => by rw [List.length_cons, List.length_cons, ks.len]
theorem KidsT.one {t : Nd} {cs : List (List AV)} {Ts : List RowT} (h : KidsT [t] cs Ts) : ∃ c, cs = [c] ∧ NodeT t c Ts := by
 cases h with
 | cons k ks =>
  cases ks
  refine ⟨_, rfl, ?_⟩
  rw [List.append_nil]
  exact k
theorem NodeT.len {t : Nd} {c : List AV} {T : List RowT} (h : NodeT t c T) : c.length = 6 := by
 cases h with
 | mk hw g k => simp [nodeC, wordsA_len, hw.len]
theorem NodeT.one {t : Nd} {c : List AV} {T : List RowT} (h : NodeT t c T) : c.all AV.one = true := by
 cases h with
 | mk hw g k =>
  simp only [nodeC, List.all_cons, List.all_append, wordsA_one, g.one.1, List.all_nil, Bool.and_true]
  rfl
theorem NodeT.leaf (op : Nat) {w : List Nat} (hw : WordsOk w) : NodeT (.mk op w []) (nodeC op w .nsl) [] := NodeT.mk (T0 := []) (T1 := []) hw (GrowT.nil _ _) .nil
def oneN (c : Nat) : Nd := .mk 2 (spanW zeroW c 1) []
def anyW : List Nat := spanW zeroW 0 256
theorem anyW_ok : WordsOk anyW := spanW_ok 256 zeroW_ok 0
theorem anyW_eq : spanW zeroW 0 (255 + 1 - 0) = anyW := rfl
attribute [irreducible] anyW
def anyN : Nd := .mk 2 anyW []
def overN (op : Nat) (l : List Nd) : Nd := .mk op zeroW l
def joinN (op : Nat) : List Nd → Nd
 | [] => .mk 1 zeroW []
 | [t] => t
 | l => overN op l
def memB2 (u : Bytes) (i : Nat) : Except Nat (Nat × Nat) := match at? u i with
 | none => .error i
 | some c => if c = 92 then (match at? u (i + 1) with
   | none => .error (i + 1)
   | some e => .ok (e, i + 2))
  else if c = 91 ∨ c = 93 ∨ c = 94 ∨ c = 45 then .error i else .ok (c, i + 1)
def memberF (u : Bytes) (w : List Nat) (i : Nat) : Except Nat (List Nat × Nat) := match memB2 u i with
 | .error q => .error q
 | .ok (c, j) => if at? u j = some 45 then (match memB2 u (j + 1) with
   | .error q => .error q
   | .ok (e, k) => if e < c then .error (k - 1) else .ok (spanW w c (e + 1 - c), k))
  else .ok (spanW w c 1, j)
inductive LoopP (u : Bytes) : List Nat → Nat → Except Nat (List Nat × Nat) → Prop
 | done {w : List Nat} {j : Nat} (n : at? u j = some 93) : LoopP u w j (.ok (w, j + 1))
 | bad {w : List Nat} {j q : Nat} (n : at? u j ≠ some 93) (h : memberF u w j = .error q) : LoopP u w j (.error q)
 | more {w w' : List Nat} {j k : Nat} {r : Except Nat (List Nat × Nat)} (n : at? u j ≠ some 93) (h : memberF u w j = .ok (w', k)) (m : LoopP u w' k r) : LoopP u w j r
def setB (u : Bytes) (i : Nat) : Nat := if at? u i = some 94 then i + 1 else i
def othersR (u : Bytes) (i : Nat) : Except Nat (List Nat × Nat) → Except Nat (List Nat × Nat)
 | .ok (w, j) => .ok (if at? u i = some 94 then othersW w else w, j)
 | .error q => .error q
inductive SetP (u : Bytes) (i : Nat) : Except Nat (List Nat × Nat) → Prop
 | bad {q : Nat} (h : memberF u zeroW (setB u i) = .error q) : SetP u i (.error q)
 | set {w : List Nat} {j : Nat} {r : Except Nat (List Nat × Nat)} (h : memberF u zeroW (setB u i) = .ok (w, j)) (m : LoopP u w j r) : SetP u i (othersR u i r)
def signOp : Nat → Nat
 | 42 => 5
 | 43 => 6
 | 63 => 7
 | _ => 0
def signAt (u : Bytes) (j : Nat) : Nat := match at? u j with
 | some c => signOp c
 | none => 0
def badAtom (c : Nat) : Prop := c = 124 ∨ c = 41 ∨ c = 42 ∨ c = 43 ∨ c = 63 ∨ c = 93
def stops (u : Bytes) (i : Nat) : Prop := at? u i = none ∨ at? u i = some 124 ∨ at? u i = some 41
abbrev Res := Except Nat (Nd × Nat)
mutual
inductive AltP (u : Bytes) : List Nd → Nat → Res → Prop
 | bad {l : List Nd} {i q : Nat} (h : RowP u [] i (.error q)) : AltP u l i (.error q)
 | last {l : List Nd} {i j : Nat} {t : Nd} (h : RowP u [] i (.ok (t, j))) (n : at? u j ≠ some 124) : AltP u l i (.ok (joinN 4 (l ++ [t]), j))
 | more {l : List Nd} {i j : Nat} {t : Nd} {r : Res} (h : RowP u [] i (.ok (t, j))) (n : at? u j = some 124) (m : AltP u (l ++ [t]) (j + 1) r) : AltP u l i r
inductive RowP (u : Bytes) : List Nd → Nat → Res → Prop
 | stop {l : List Nd} {i : Nat} (s : stops u i) : RowP u l i (.ok (joinN 3 l, i))
 | bad {l : List Nd} {i q : Nat} (s : ¬ stops u i) (h : PartP u i (.error q)) : RowP u l i (.error q)
 | more {l : List Nd} {i j : Nat} {t : Nd} {r : Res} (s : ¬ stops u i) (h : PartP u i (.ok (t, j))) (m : RowP u (l ++ [t]) j r) : RowP u l i r
inductive PartP (u : Bytes) : Nat → Res → Prop
 | bad {i q : Nat} (h : AtomP u i (.error q)) : PartP u i (.error q)
 | bare {i j : Nat} {t : Nd} (h : AtomP u i (.ok (t, j))) (n : signAt u j = 0) : PartP u i (.ok (t, j))
 | sign {i j : Nat} {t : Nd} (h : AtomP u i (.ok (t, j))) (n : signAt u j ≠ 0) : PartP u i (.ok (overN (signAt u j) [t], j + 1))
inductive AtomP (u : Bytes) : Nat → Res → Prop
 | none {i : Nat} (h : at? u i = none) : AtomP u i (.error i)
 | open_bad {i q : Nat} (h : at? u i = some 40) (m : AltP u [] (i + 1) (.error q)) : AtomP u i (.error q)
 | open_end {i j : Nat} {t : Nd} (h : at? u i = some 40) (m : AltP u [] (i + 1) (.ok (t, j))) (n : at? u j ≠ some 41) : AtomP u i (.error j)
 | group {i j : Nat} {t : Nd} (h : at? u i = some 40) (m : AltP u [] (i + 1) (.ok (t, j))) (n : at? u j = some 41) : AtomP u i (.ok (t, j + 1))
 | any {i : Nat} (h : at? u i = some 46) : AtomP u i (.ok (anyN, i + 1))
 | set_bad {i q : Nat} (h : at? u i = some 91) (m : SetP u (i + 1) (.error q)) : AtomP u i (.error q)
 | set {i j : Nat} {w : List Nat} (h : at? u i = some 91) (m : SetP u (i + 1) (.ok (w, j))) : AtomP u i (.ok (.mk 2 w [], j))
 | sl_end {i : Nat} (h : at? u i = some 92) (n : at? u (i + 1) = Option.none) : AtomP u i (.error (i + 1))
 | sl {i c : Nat} (h : at? u i = some 92) (n : at? u (i + 1) = some c) : AtomP u i (.ok (oneN c, i + 2))
 | bad {i c : Nat} (h : at? u i = some c) (b : badAtom c) : AtomP u i (.error i)
 | one {i c : Nat} (h : at? u i = some c) (b : ¬ badAtom c) (n : c ≠ 40 ∧ c ≠ 46 ∧ c ≠ 91 ∧ c ≠ 92) : AtomP u i (.ok (oneN c, i + 1))
end
def StepN (b : Nat) (u : Bytes) (h : AHeap) (x : R) : Res → Prop
 | .ok (t, p) => ∃ c T h', x = some (.ret (.agg c), h') ∧ NodeT t c T ∧ Mem [b] h h' ((b, 70, rdP u p) :: T)
 | .error q => ∃ h' p, x = some (.panic (PanA 6 q), h') ∧ Rd h' b u p ∧ Tch [b] h h'
theorem orI_nat {x y : Nat} (hx : x < 18446744073709551616) (hy : y < 18446744073709551616) : orI .u64 (x : Int) (y : Int) = ((x ||| y : Nat) : Int) := by
 have e : (BitVec.ofInt 64 (x : Int) ||| BitVec.ofInt 64 (y : Int)).toNat = x ||| y := by
  rw [BitVec.toNat_or, BitVec.toNat_ofInt, BitVec.toNat_ofInt]
  congr 1 <;> omega
 unfold orI
 show IntKind.u64.wrap (((BitVec.ofInt 64 (x : Int) ||| BitVec.ofInt 64 (y : Int)).toNat : Nat) : Int) = _
 rw [e, wrap_u64_mod]
 have := or_small hx hy
 omega
theorem xorI_nat {x y : Nat} (hx : x < 18446744073709551616) (hy : y < 18446744073709551616) : xorI .u64 (x : Int) (y : Int) = ((x ^^^ y : Nat) : Int) := by
 have e : (BitVec.ofInt 64 (x : Int) ^^^ BitVec.ofInt 64 (y : Int)).toNat = x ^^^ y := by
  rw [BitVec.toNat_xor, BitVec.toNat_ofInt, BitVec.toNat_ofInt]
  congr 1 <;> omega
 unfold xorI
 show IntKind.u64.wrap (((BitVec.ofInt 64 (x : Int) ^^^ BitVec.ofInt 64 (y : Int)).toNat : Nat) : Int) = _
 rw [e, wrap_u64_mod]
 have := Nat.xor_lt_two_pow (n := 64) (x := x) (y := y) (by omega) (by omega)
 omega
theorem shlI_one {k : Nat} (h : k < 64) : shlI .u64 1 (k : Int) = some ((2 ^ k : Nat) : Int) := by
 unfold shlI
 rw [if_neg (by omega)]
 have e : min ((k : Int).toNat) IntKind.u64.bits = k := by
  show min ((k : Int).toNat) 64 = k
  omega
 rw [e, wrap_u64_mod, Int.one_mul]
 have := pow_small h
 have e2 : ((2 : Int) ^ k) = ((2 ^ k : Nat) : Int) := by push_cast; rfl
 rw [e2]
 generalize 2 ^ k = z at this
 congr 1
 omega
theorem quoI_64 {c : Nat} (h : c < 1000) : quoI .i64 (c : Int) 64 = some ((c / 64 : Nat) : Int) := by
 unfold quoI
 rw [if_neg (by decide), Int.tdiv_eq_ediv_of_nonneg (by omega), wrap_i64 (by omega) (by omega)]
 congr 1
theorem remI_64 {c : Nat} : remI .i64 (c : Int) 64 = some ((c % 64 : Nat) : Int) := by
 unfold remI
 rw [if_neg (by decide), Int.tmod_eq_emod_of_nonneg (by omega)]
 congr 1
theorem idxA_ptr {n b o i : Nat} (h : i < n) : idxA n 1 (.ptr b o) (i : Int) = some (.ptr b (o + i)) := by
 have e : Nat.blt i n = true := by simpa using h
 show (match Nat.blt i n with | true => some (AV.ptr b (o + i * 1)) | false => none) = _
 rw [e, Nat.mul_one]
section
variable {n d b o p : Nat} {h : AHeap} {u : Bytes} {Q : ARes → AHeap → Prop} {pre post : List AV} {w : List Nat} {e : TypeId}
theorem get_words {i : Nat} (hi : i < w.length) : (pre ++ (wordsA w ++ post))[pre.length + i]? = some (.int .u64 (w.getD i 0 : Int)) := by
 rw [List.getElem?_append_right (by omega), show pre.length + i - pre.length = i by omega, List.getElem?_append_left (by rw [wordsA_len]; exact hi)]
 unfold wordsA
 rw [List.getElem?_map, List.getD_eq_getElem?_getD, List.getElem?_eq_getElem hi]
 rfl
theorem set_words {i x : Nat} (hi : i < w.length) : (pre ++ (wordsA w ++ post)).set (pre.length + i) (.int .u64 (x : Int)) = pre ++ (wordsA (w.set i x) ++ post) := by
 rw [List.set_append_right _ _ (by omega), show pre.length + i - pre.length = i by omega, List.set_append_left _ _ (by rw [wordsA_len]; exact hi)]
 unfold wordsA
 rw [List.map_set]
theorem span_loop {k4 : AHeap → R} (hpre : pre.length = o) : ∀ (m f lo : Nat) (w : List Nat) (H : AHeap), m < f → lo + m ≤ 256 → WordsOk w → RowH H b e (pre ++ (wordsA w ++ post)) →
   (∀ H', RowH H' b e (pre ++ (wordsA (spanW w lo m) ++ post)) → Tch [b] H H' → Wp (k4 H') Q) → Wp (pattern_addSpan_L0 (.ptr b o) ((lo + m : Nat) - 1 : Int) k4 f (lo : Int) H) Q
 | _, 0, _, _, _, hf, _, _, _, _ => by omega
 | 0, f + 1, lo, w, H, hf, hm, hw, k, hk => by
  rw [pattern_addSpan_L0_s]
  unfold pattern_addSpan_L0b
  repeat (first | ((with_reducible refine Wp.lettw ?_ ?_ ?_); omega; omega) | (with_reducible refine Wp.lett ?_) | ((with_reducible refine Wp.iff ?_ ?_); ((with_reducible apply decide_eq_false); omega)))
  exact hk H k (Tch.refl _ _)
 | m + 1, f + 1, lo, w, H, hf, hm, hw, k, hk => by
  rw [pattern_addSpan_L0_s]
  unfold pattern_addSpan_L0b
  have hi : lo / 64 < 4 := by omega
  have hl : lo / 64 < w.length := by rw [hw.len]; exact hi
  have hc := get_words (pre := pre) (post := post) hl
  have e1 := quoI_64 (c := lo) (by omega)
  have e2 := idxA_ptr (b := b) (o := o) hi
  have e3 := remI_64 (c := lo)
  have e4 := shlI_one (k := lo % 64) (Nat.mod_lt _ (by decide))
  rw [hpre] at hc
  have e5 := RowH.cell' k hc
  repeat (first | ((with_reducible refine Wp.lettw ?_ ?_ ?_); omega; omega) | (with_reducible refine Wp.lett ?_) | ((with_reducible apply Wp.obind); (with_reducible first | exact e1 | exact e2 | exact e3 | exact e4 | exact e5 | exact avInt_int _ _ | exact nilC_ptr _ _)) | ((with_reducible refine Wp.ift ?_ ?_); ((with_reducible apply decide_eq_true); omega)))
  rw [orI_nat (hw.get _) (pow_small (Nat.mod_lt _ (by decide)))]
  refine Wp.st1 k (by simp [wordsA_len]; omega) rfl fun h' k' t' _ => ?_
  rw [← hpre, set_words hl] at k'
  repeat (((with_reducible refine Wp.lettw ?_ ?_ ?_); omega; omega))
  have eh : ((lo + (m + 1) : Nat) - 1 : Int) = ((lo + 1 + m : Nat) - 1 : Int) := by omega
  have el : (lo : Int) + 1 = ((lo + 1 : Nat) : Int) := by omega
  rw [eh, el]
  exact span_loop hpre m f (lo + 1) (addW w lo) h' (by omega) (by omega) (addW_ok hw lo) k' fun H' k2 t2 => hk H' k2 (t'.trans t2)
theorem addSpan_r (hpre : pre.length = o) (hn : 300 < n) {lo hi : Nat} (h1 : lo ≤ hi) (h2 : hi < 256) (hw : WordsOk w) (k : RowH h b e (pre ++ (wordsA w ++ post))) : ∃ h', world n (d + 1) 84 [.ptr b o, .int .u8 (lo : Int), .int .u8 (hi : Int)] h = some (.ret (.tup []), h') ∧ RowH h' b e (pre ++ (wordsA (spanW w lo (hi + 1 - lo)) ++ post)) ∧ Tch [b] h h' := by
 apply Wp.ex
 rw [w_pattern_addSpan]
 unfold pattern_addSpan
 (((with_reducible refine Wp.lettw ?_ ?_ ?_); omega; omega))
 ((with_reducible refine Wp.join0 (fun _ _ => ?_)))
 rename_i k4 ek4
 have eh : (hi : Int) = ((lo + (hi + 1 - lo) : Nat) - 1 : Int) := by omega
 rw [eh]
 refine span_loop hpre (hi + 1 - lo) n lo w h (by omega) (by omega) hw k fun H' k2 t2 => ?_
 repeat ((with_reducible refine Wp.go0 (by assumption) ?_))
 exact Wp.ret ⟨rfl, k2, t2⟩
end
abbrev TNodes : Nat := 39
theorem wordsA_scal : ∀ (w : List Nat), AV.scalL (wordsA w ++ [.nsl]) = true
 | [] => rfl
 | _ :: w => wordsA_scal w
theorem nodeC_scal (op : Nat) (w : List Nat) : (AV.agg (nodeC op w .nsl)).scal = true := wordsA_scal w
theorem bldOver0 (op : Int) : bldS Try.prog TNode [(0, .int .i64 op), (2, .nsl)] = some [.int .i64 op, .int .u64 0, .int .u64 0, .int .u64 0, .int .u64 0, .nsl] := by kernel_rfl
theorem bldOver1 (op : Int) (c m : Nat) : bldS Try.prog TNode [(0, .int .i64 op), (2, .sl c 0 m 6)] = some [.int .i64 op, .int .u64 0, .int .u64 0, .int .u64 0, .int .u64 0, .sl c 0 m 6] := by kernel_rfl
theorem bldSet (a b c d : Int) : bldS Try.prog TNode [(0, .int .i64 2), (1, .agg [.int .u64 a, .int .u64 b, .int .u64 c, .int .u64 d])] = some [.int .i64 2, .int .u64 a, .int .u64 b, .int .u64 c, .int .u64 d, .nsl] := by kernel_rfl
theorem bldNode (h : AHeap) (op a b c d : Int) (kv : AV) : bldSl Try.prog h TNodes 1 [(0, .agg [.int .i64 op, .int .u64 a, .int .u64 b, .int .u64 c, .int .u64 d, kv])] = outNewS h TNode [.int .i64 op, .int .u64 a, .int .u64 b, .int .u64 c, .int .u64 d, kv] 1 6 := by kernel_rfl
theorem words4 {w : List Nat} (k : WordsOk w) : ∃ a b c d, w = [a, b, c, d] := by
 match w, k.len with
 | [a, b, c, d], _ => exact ⟨a, b, c, d, rfl⟩
theorem NodeT.bld {t : Nd} {c : List AV} {T : List RowT} (k : NodeT t c T) (h : AHeap) : bldSl Try.prog h TNodes 1 [(0, .agg c)] = outNewS h TNode c 1 6 := by
 cases k with
 | mk hw g ks =>
  obtain ⟨a, b, c, d, rfl⟩ := words4 hw
  exact bldNode h _ _ _ _ _ _
theorem setBld {w : List Nat} (k : WordsOk w) : bldS Try.prog TNode [(0, .int .i64 2), (1, .agg (wordsA w))] = some (nodeC 2 w .nsl) := by
 obtain ⟨a, b, c, d, rfl⟩ := words4 k
 exact bldSet _ _ _ _
section
variable {n d b p : Nat} {h h0 : AHeap} {u : Bytes} {Q : ARes → AHeap → Prop} {S : List Nat} {xs T T0 T1 : List RowT} {kc : List (List AV)} {kv : AV} {l : List Nd}
theorem overBld (g : GrowT TNode 6 kc kv T) (op : Nat) : bldS Try.prog TNode [(0, .int .i64 (op : Int)), (2, kv)] = some (nodeC op zeroW kv) := by
 rcases g.2 with ⟨_, rfl, _⟩ | ⟨_, c, rfl, _⟩
 ·exact bldOver0 _
 ·exact bldOver1 _ _ _
theorem nodeC_len {op : Nat} {w : List Nat} (hw : WordsOk w) : (nodeC op w kv).length = 6 := by simp [nodeC, wordsA_len, hw.len]
theorem nodeC_one {op : Nat} {w : List Nat} (hk : kv.one = true) : (nodeC op w kv).all AV.one = true := by
 simp only [nodeC, List.all_cons, List.all_append, wordsA_one, hk, List.all_nil, Bool.and_true]
 rfl
theorem oneByte_w (hn : 300 < n) {c : Nat} (hc : c < 256) : world n (d + 2) 78 [.int .u8 (c : Int)] h = some (.ret (.agg (nodeC 2 (spanW zeroW c 1) .nsl)), h) := by
 apply Wp.eq
 rw [w_pattern_oneByte]
 refine Wp.gc ?_
 suffices hK : Wp (pattern_oneByte (world n (d + 1)) n c h) fun r h' => r = .ret (.agg (nodeC 2 (spanW zeroW c 1) .nsl)) ∧ Tch [] h h' from hK.mono fun r h' ⟨e, t⟩ => ⟨t.above, by rw [e]; exact nodeC_scal _ _, e, rfl⟩
 unfold pattern_oneByte
 have Mx := Mem.nil [] h
 repeat (first | ((with_reducible apply Wp.sa0 Mx); rfl; rfl; (rfl); intro _ Mz; clear Mx; have Mx := Mz; clear Mz) | ((with_reducible apply Wp.mnew Mx); intro _ Mz; clear Mx; have Mx := Mz; clear Mz) | rw [newP_eq])
 have k0 : RowH _ _ _ ([AV.int .i64 2] ++ (wordsA zeroW ++ [.nsl])) := Mx.at0.1
 obtain ⟨h5, e5, k5, t5⟩ := addSpan_r (n := n) (d := d) rfl hn (Nat.le_refl c) hc zeroW_ok k0
 refine Wp.callN e5 ?_
 have Mz := Mem.upd (xs := []) Mx t5 k5
 clear Mx
 have Mx := Mz
 clear Mz k0 k5
 rw [show c + 1 - c = 1 by omega] at Mx
 have ho := nodeC_one (kv := .nsl) (op := 2) (w := spanW zeroW c 1) rfl
 have hl : ([AV.int .i64 2] ++ (wordsA (spanW zeroW c 1) ++ [AV.nsl])).length = 6 := nodeC_len (op := 2) (spanW_ok 1 zeroW_ok c)
 refine Wp.lr0 Mx hl ?_
 refine Wp.sa1 Mx hl rfl ho fun h6 Mz => ?_
 refine Wp.lr1 Mz hl ?_
 exact Wp.ret ⟨rfl, Mz.tch⟩
theorem anyByte_w (hn : 300 < n) : world n (d + 2) 77 [] h = some (.ret (.agg (nodeC 2 (anyW) .nsl)), h) := by
 apply Wp.eq
 rw [w_pattern_anyByte]
 refine Wp.gc ?_
 suffices hK : Wp (pattern_anyByte (world n (d + 1)) n h) fun r h' => r = .ret (.agg (nodeC 2 (anyW) .nsl)) ∧ Tch [] h h' from hK.mono fun r h' ⟨e, t⟩ => ⟨t.above, by rw [e]; exact nodeC_scal _ _, e, rfl⟩
 unfold pattern_anyByte
 have Mx := Mem.nil [] h
 repeat (first | ((with_reducible apply Wp.sa0 Mx); rfl; rfl; (rfl); intro _ Mz; clear Mx; have Mx := Mz; clear Mz) | ((with_reducible apply Wp.mnew Mx); intro _ Mz; clear Mx; have Mx := Mz; clear Mz) | rw [newP_eq])
 have k0 : RowH _ _ _ ([AV.int .i64 2] ++ (wordsA zeroW ++ [.nsl])) := Mx.at0.1
 obtain ⟨h5, e5, k5, t5⟩ := addSpan_r (n := n) (d := d) (lo := 0) (hi := 255) rfl hn (by omega) (by omega) zeroW_ok k0
 refine Wp.callN e5 ?_
 have Mz := Mem.upd (xs := []) Mx t5 k5
 clear Mx
 have Mx := Mz
 clear Mz k0 k5
 rw [anyW_eq] at Mx
 have ho := nodeC_one (kv := .nsl) (op := 2) (w := anyW) rfl
 have hl : ([AV.int .i64 2] ++ (wordsA (anyW) ++ [AV.nsl])).length = 6 := nodeC_len (op := 2) anyW_ok
 refine Wp.lr0 Mx hl ?_
 refine Wp.sa1 Mx hl rfl ho fun h6 Mz => ?_
 refine Wp.lr1 Mz hl ?_
 exact Wp.ret ⟨rfl, Mz.tch⟩
theorem over_r (g : GrowT TNode 6 kc kv T) (op : Nat) : ∃ h', world n (d + 1) 76 [.int .i64 (op : Int), kv] h = some (.ret (.agg (nodeC op zeroW kv)), h') ∧ Tch [] h h' := by
 apply Wp.ex
 rw [w_pattern_over]
 unfold pattern_over
 have Mx := Mem.nil [] h
 have hl := nodeC_len (kv := kv) (op := op) zeroW_ok
 have ho := nodeC_one (op := op) (w := zeroW) g.one.1
 have hb := overBld g op
 repeat (first | ((with_reducible apply Wp.lr0 Mx); rfl) | ((with_reducible apply Wp.sa0 Mx); rfl; rfl; ((with_reducible assumption)); intro _ Mz; clear Mx; have Mx := Mz; clear Mz) | ((with_reducible apply Wp.mnew Mx); intro _ Mz; clear Mx; have Mx := Mz; clear Mz) | ((with_reducible apply Wp.obind); (with_reducible exact hb)) | rw [newP_eq])
 exact Wp.ret ⟨rfl, Mx.tch⟩
theorem mem_mid (M : Mem S h0 h (xs ++ (T0 ++ T1))) : Mem S h0 h (xs ++ T1) := Mem.drop (xs := T0) (M.perm (List.perm_append_comm_assoc T0 xs T1))
theorem idx0 (c m : Nat) : idxP 6 (.sl c 0 (m + 1) 6) 0 = some (.ptr c 0) := by
 have := idxP_sl (sz := 6) (b := c) (o := 0) (n := m + 1) (k := 6) (i := 0) (by omega)
 simpa using this
theorem grow_single {c : List AV} (g : GrowT TNode 6 [c] kv T0) : ∃ q, kv = .sl q 0 1 6 ∧ T0 = [(q, TNode, c)] := by
 rcases g.2 with ⟨hh, _⟩ | ⟨_, q, rfl, rfl⟩
 ·cases hh
 ·exact ⟨q, rfl, by simp⟩
theorem inRow_r (Mx : Mem S h0 h (xs ++ (T0 ++ T1))) (g : GrowT TNode 6 kc kv T0) (k : KidsT l kc T1) : ∃ c T h', world n (d + 2) 75 [kv] h = some (.ret (.agg c), h') ∧ NodeT (joinN 3 l) c T ∧ Mem S h0 h' (xs ++ T) := by
 have hkl := k.len
 match l, k, hkl with
 | [], k, hkl =>
  cases k
  rcases g.2 with ⟨_, rfl, rfl⟩ | ⟨hh, _⟩
  ·refine ⟨nodeC 1 zeroW .nsl, [], ?_⟩
   suffices hK : ∃ h', world n (d + 2) 75 [.nsl] h = some (.ret (.agg (nodeC 1 zeroW .nsl)), h') ∧ Mem S h0 h' (xs ++ ([] ++ [])) by
    obtain ⟨h', e, M'⟩ := hK
    exact ⟨h', e, NodeT.leaf 1 zeroW_ok, M'⟩
   apply Wp.ex
   rw [w_pattern_inRow]
   unfold pattern_inRow
   have hlen : lenL .nsl = some 0 := rfl
   repeat (first | ((with_reducible apply Wp.lr0 Mx); rfl) | ((with_reducible apply Wp.sa0 Mx); rfl; rfl; (rfl); intro _ Mz; clear Mx; have Mx := Mz; clear Mz) | ((with_reducible apply Wp.mnew Mx); intro _ Mz; clear Mx; have Mx := Mz; clear Mz) | (with_reducible refine Wp.lett ?_) | ((with_reducible apply Wp.obind); (with_reducible exact hlen)) | ((with_reducible refine Wp.ift ?_ ?_); ((with_reducible apply beq_t); omega)) | rw [newP_eq])
   exact Wp.ret ⟨rfl, Mx.pop⟩
  ·exact absurd rfl hh
 | [t], k, hkl =>
  obtain ⟨c, rfl, kt⟩ := k.one
  obtain ⟨q, rfl, rfl⟩ := grow_single g
  refine ⟨c, T1, ?_⟩
  suffices hK : ∃ h', world n (d + 2) 75 [.sl q 0 1 6] h = some (.ret (.agg c), h') ∧ Mem S h0 h' (xs ++ ([(q, TNode, c)] ++ T1)) by
   obtain ⟨h', e, M'⟩ := hK
   exact ⟨h', e, kt, mem_mid M'⟩
  apply Wp.ex
  rw [w_pattern_inRow]
  unfold pattern_inRow
  have hlen : lenL (.sl q 0 1 6) = some 1 := rfl
  have ei : idxP 6 (.sl q 0 1 6) 0 = some (.ptr q 0) := idx0 q 0
  repeat (first | ((with_reducible apply Wp.mnew Mx); intro _ Mz; clear Mx; have Mx := Mz; clear Mz) | (with_reducible refine Wp.lett ?_) | ((with_reducible apply Wp.obind); (with_reducible first | exact hlen | exact ei)) | ((with_reducible refine Wp.ift ?_ ?_); ((with_reducible apply beq_t); omega)) | ((with_reducible refine Wp.iff ?_ ?_); ((with_reducible apply beq_f); omega)) | rw [newP_eq])
  refine Wp.obind (RowH.ldAll (Mem.at (xs := _ :: xs) Mx).1 kt.len) ?_
  refine Wp.sa0 Mx kt.len rfl kt.one fun h6 Mz => ?_
  refine Wp.lr0 Mz kt.len ?_
  exact Wp.ret ⟨rfl, Mz.pop⟩
 | t :: t' :: ts, k, hkl =>
  refine ⟨nodeC 3 zeroW kv, T0 ++ T1, ?_⟩
  suffices hK : ∃ h', world n (d + 2) 75 [kv] h = some (.ret (.agg (nodeC 3 zeroW kv)), h') ∧ Mem S h0 h' (xs ++ (T0 ++ T1)) by
   obtain ⟨h', e, M'⟩ := hK
   exact ⟨h', e, NodeT.mk zeroW_ok g k, M'⟩
  apply Wp.ex
  rw [w_pattern_inRow]
  unfold pattern_inRow
  have hlen := g.len
  simp only [List.length_cons] at hkl
  have hl := nodeC_len (kv := kv) (op := 3) zeroW_ok
  have ho := nodeC_one (op := 3) (w := zeroW) g.one.1
  repeat (first | ((with_reducible refine Wp.mcall (over_r (n := n) (d := d) g 3) Mx (fun _ Mz _ => ?_)); clear Mx; have Mx := Mz; clear Mz) | ((with_reducible apply Wp.lr0 Mx); rfl) | ((with_reducible apply Wp.sa0 Mx); rfl; rfl; ((with_reducible assumption)); intro _ Mz; clear Mx; have Mx := Mz; clear Mz) | ((with_reducible apply Wp.mnew Mx); intro _ Mz; clear Mx; have Mx := Mz; clear Mz) | (with_reducible refine Wp.lett ?_) | ((with_reducible apply Wp.obind); (with_reducible first | exact hlen | exact avAgg_agg _)) | ((with_reducible refine Wp.iff ?_ ?_); ((with_reducible apply beq_f); omega)) | rw [newP_eq])
  exact Wp.ret ⟨rfl, Mx.pop⟩
end
abbrev TRd : Nat := 70
abbrev TSet : Nat := 38
def byteR : Except Nat (Nat × Nat) → Except (Int × Nat) (AV × Nat)
 | .ok (c, j) => .ok (.int .u8 (c : Int), j)
 | .error q => .error (6, q)
noncomputable def setR : Except Nat (List Nat × Nat) → Except (Int × Nat) (AV × Nat)
 | .ok (w, j) => .ok (.agg (wordsA w), j)
 | .error q => .error (6, q)
section
variable {n d b p q i : Nat} {h h0 : AHeap} {u : Bytes} {Q : ARes → AHeap → Prop} {S : List Nat} {xs : List RowT} {w : List Nat}
theorem at?_256 {c : Nat} (h : at? u i = some c) : c < 256 := by
 obtain ⟨hp, rfl⟩ := at?_some h
 exact UInt8.toNat_lt _
theorem memB2_ok {c j : Nat} (h : memB2 u i = .ok (c, j)) : c < 256 ∧ i < j ∧ j ≤ u.length := by
 unfold memB2 at h
 split at h
 ·cases h
 ·rename_i c' hc
  obtain ⟨hp, _⟩ := at?_some hc
  split at h
  ·split at h
   ·cases h
   ·rename_i e he
    obtain ⟨hp2, _⟩ := at?_some he
    cases h
    exact ⟨at?_256 he, by omega, by omega⟩
  ·split at h
   ·cases h
   ·cases h
    exact ⟨at?_256 hc, by omega, by omega⟩
theorem memB2_bad {q : Nat} (hi : i ≤ u.length) (h : memB2 u i = .error q) : q ≤ u.length := by
 unfold memB2 at h
 split at h
 ·cases h
  exact hi
 ·rename_i c' hc
  obtain ⟨hp, _⟩ := at?_some hc
  split at h
  ·split at h
   ·cases h
    omega
   ·cases h
  ·split at h
   ·cases h
    omega
   ·cases h
theorem memberF_ok {w' : List Nat} {j : Nat} (hw : WordsOk w) (h : memberF u w i = .ok (w', j)) : WordsOk w' ∧ i < j ∧ j ≤ u.length := by
 unfold memberF at h
 split at h
 ·cases h
 ·rename_i c j' h1
  obtain ⟨_, h2, h3⟩ := memB2_ok h1
  split at h
  ·split at h
   ·cases h
   ·rename_i e k h4
    obtain ⟨_, h5, h6⟩ := memB2_ok h4
    split at h
    ·cases h
    ·cases h
     exact ⟨spanW_ok _ hw _, by omega, h6⟩
  ·cases h
   exact ⟨spanW_ok _ hw _, h2, h3⟩
theorem memberF_bad {q : Nat} (hi : i ≤ u.length) (h : memberF u w i = .error q) : q ≤ u.length := by
 unfold memberF at h
 split at h
 ·rename_i h1
  cases h
  exact memB2_bad hi h1
 ·rename_i c j' h1
  split at h
  ·rename_i h45
   obtain ⟨hp, _⟩ := at?_some h45
   split at h
   ·rename_i h4
    cases h
    exact memB2_bad (by omega) h4
   ·rename_i e k h4
    obtain ⟨_, h5, h6⟩ := memB2_ok h4
    split at h
    ·cases h
     omega
    ·cases h
  ·cases h
theorem memberByte_r (k : Rd h b u i) (hb : b < h.next) (hi : i ≤ u.length) (hu : u.length ≤ 1000000) : Step b u h (world n (d + 3) 94 [.ptr b 0] h) (byteR (memB2 u i)) := by
 have hx := next_r (n := n) (d := d) k hb hi hu
 unfold memB2
 cases hc : at? u i with
 | none =>
  rw [hc] at hx
  refine Step.err_of ?_
  rw [w_pattern_reader_memberByte]
  unfold pattern_reader_memberByte
  exact Wp.stepE hx fun h' p' k1 k2 => ⟨rfl, p', k1, k2⟩
 | some c =>
  rw [hc] at hx
  obtain ⟨hp, _⟩ := at?_some hc
  have h256 := at?_256 hc
  by_cases h92 : c = 92
  ·show Step b u h _ (byteR (if c = 92 then _ else _))
   rw [if_pos h92]
   cases he : at? u (i + 1) with
   | none =>
    refine Step.err_of ?_
    rw [w_pattern_reader_memberByte]
    unfold pattern_reader_memberByte
    refine Wp.stepK hx fun h1 k1 t1 => ?_
    have hx2 := next_r (n := n) (d := d) k1 (lt_tch t1 hb) (by omega) hu
    rw [he] at hx2
    repeat (first | (with_reducible refine Wp.lett ?_) | ((with_reducible apply Wp.obind); (with_reducible exact avInt_int _ _)) | ((with_reducible refine Wp.ift ?_ ?_); ((with_reducible apply beq_t); omega)))
    exact Wp.stepE hx2 fun h' p' k2 t2 => ⟨rfl, p', k2, t1.trans t2⟩
   | some e =>
    refine Step.ok_of ?_
    rw [w_pattern_reader_memberByte]
    unfold pattern_reader_memberByte
    refine Wp.stepK hx fun h1 k1 t1 => ?_
    have hx2 := next_r (n := n) (d := d) k1 (lt_tch t1 hb) (by omega) hu
    rw [he] at hx2
    repeat (first | (with_reducible refine Wp.lett ?_) | ((with_reducible apply Wp.obind); (with_reducible exact avInt_int _ _)) | ((with_reducible refine Wp.ift ?_ ?_); ((with_reducible apply beq_t); omega)))
    refine Wp.stepK hx2 fun h2 k2 t2 => ?_
    repeat (((with_reducible apply Wp.obind); (with_reducible exact avInt_int _ _)))
    exact Wp.ret ⟨rfl, k2, t1.trans t2⟩
  ·show Step b u h _ (byteR (if c = 92 then _ else _))
   rw [if_neg h92]
   by_cases hs : c = 91 ∨ c = 93 ∨ c = 94 ∨ c = 45
   ·rw [if_pos hs]
    refine Step.err_of ?_
    rw [w_pattern_reader_memberByte]
    unfold pattern_reader_memberByte
    refine Wp.stepK hx fun h1 k1 t1 => ?_
    have hr := refuseLast_r (n := n) (d := d) k1 (by omega) hu
    rcases hs with hs | hs | hs | hs
    ·repeat (first | (with_reducible first | refine Wp.join0 (fun _ _ => ?_) | refine Wp.join1 (fun _ _ => ?_)) | (with_reducible refine Wp.lett ?_) | ((with_reducible apply Wp.obind); (with_reducible exact avInt_int _ _)) | ((with_reducible refine Wp.ift ?_ ?_); first | (with_reducible rfl) | ((with_reducible apply beq_t); omega)) | ((with_reducible refine Wp.iff ?_ ?_); ((with_reducible apply beq_f); omega)) | (with_reducible refine Wp.go1 (by assumption) ?_))
     exact Wp.callP hr ⟨rfl, _, k1, t1⟩
    ·repeat (first | (with_reducible first | refine Wp.join0 (fun _ _ => ?_) | refine Wp.join1 (fun _ _ => ?_)) | (with_reducible refine Wp.lett ?_) | ((with_reducible apply Wp.obind); (with_reducible exact avInt_int _ _)) | ((with_reducible refine Wp.ift ?_ ?_); first | (with_reducible rfl) | ((with_reducible apply beq_t); omega)) | ((with_reducible refine Wp.iff ?_ ?_); ((with_reducible apply beq_f); omega)) | (with_reducible refine Wp.go1 (by assumption) ?_))
     exact Wp.callP hr ⟨rfl, _, k1, t1⟩
    ·repeat (first | (with_reducible first | refine Wp.join0 (fun _ _ => ?_) | refine Wp.join1 (fun _ _ => ?_)) | (with_reducible refine Wp.lett ?_) | ((with_reducible apply Wp.obind); (with_reducible exact avInt_int _ _)) | ((with_reducible refine Wp.ift ?_ ?_); first | (with_reducible rfl) | ((with_reducible apply beq_t); omega)) | ((with_reducible refine Wp.iff ?_ ?_); ((with_reducible apply beq_f); omega)) | (with_reducible refine Wp.go1 (by assumption) ?_))
     exact Wp.callP hr ⟨rfl, _, k1, t1⟩
    ·have h45 : ((c : Int) == 45) = true := beq_t (by omega)
     repeat (first | (with_reducible first | refine Wp.join0 (fun _ _ => ?_) | refine Wp.join1 (fun _ _ => ?_)) | (with_reducible refine Wp.lett ?_) | ((with_reducible apply Wp.obind); (with_reducible exact avInt_int _ _)) | ((with_reducible refine Wp.ift ?_ ?_); (with_reducible assumption)) | ((with_reducible refine Wp.iff ?_ ?_); ((with_reducible apply beq_f); omega)) | (with_reducible refine Wp.go1 (by assumption) ?_))
     exact Wp.callP hr ⟨rfl, _, k1, t1⟩
   ·rw [if_neg hs]
    refine Step.ok_of ?_
    rw [w_pattern_reader_memberByte]
    unfold pattern_reader_memberByte
    refine Wp.stepK hx fun h1 k1 t1 => ?_
    have h45 : ((c : Int) == 45) = false := beq_f (by omega)
    repeat (first | (with_reducible first | refine Wp.join0 (fun _ _ => ?_) | refine Wp.join1 (fun _ _ => ?_)) | (with_reducible refine Wp.lett ?_) | ((with_reducible apply Wp.obind); (with_reducible exact avInt_int _ _)) | ((with_reducible refine Wp.iff ?_ ?_); first | (with_reducible assumption) | ((with_reducible apply beq_f); omega)) | (with_reducible first | refine Wp.go0 (by assumption) ?_ | refine Wp.go1 (by assumption) ?_))
    exact Wp.ret ⟨rfl, k1, t1⟩
def StepM (S : List Nat) (h0 : AHeap) (xs : List RowT) (b q : Nat) (u : Bytes) (x : R) : Except Nat (List Nat × Nat) → Prop
 | .ok (w', j) => ∃ h', x = some (.ret (.tup []), h') ∧ Mem S h0 h' ((b, TRd, rdP u j) :: (q, TSet, wordsA w') :: xs)
 | .error e => ∃ h' p, x = some (.panic (PanA 6 e), h') ∧ Rd h' b u p ∧ Tch S h0 h'
theorem StepM.ok_of {x : R} {w' : List Nat} {j : Nat} (k : Wp x fun r h' => r = .ret (.tup []) ∧ Mem S h0 h' ((b, TRd, rdP u j) :: (q, TSet, wordsA w') :: xs)) : StepM S h0 xs b q u x (.ok (w', j)) := k.ex
theorem StepM.err_of {x : R} {e : Nat} (k : Wp x fun r h' => r = .panic (PanA 6 e) ∧ ∃ p, Rd h' b u p ∧ Tch S h0 h') : StepM S h0 xs b q u x (.error e) := by
 obtain ⟨_, h', e1, rfl, p, k1, k2⟩ := k
 exact ⟨h', p, e1, k1, k2⟩
theorem addSpan_m (hn : 300 < n) {lo hi : Nat} (h1 : lo ≤ hi) (h2 : hi < 256) (hw : WordsOk w) {y : RowT} (M : Mem S h0 h (y :: (q, TSet, wordsA w) :: xs)) : ∃ h', world n (d + 1) 84 [.ptr q 0, .int .u8 (lo : Int), .int .u8 (hi : Int)] h = some (.ret (.tup []), h') ∧ Mem S h0 h' (y :: (q, TSet, wordsA (spanW w lo (hi + 1 - lo))) :: xs) := by
 have k0 : RowH h q TSet ([] ++ (wordsA w ++ [])) := by
  rw [List.nil_append, List.append_nil]
  exact M.at1.1
 obtain ⟨h', e, k1, t⟩ := addSpan_r (n := n) (d := d) rfl hn h1 h2 hw k0
 rw [List.nil_append, List.append_nil] at k1
 exact ⟨h', e, Mem.upd (xs := [y]) M t k1⟩
theorem member_r (hn : 300 < n) (hw : WordsOk w) (M : Mem S h0 h ((b, TRd, rdP u i) :: (q, TSet, wordsA w) :: xs)) (hi : i ≤ u.length) (hu : u.length ≤ 1000000) : StepM S h0 xs b q u (world n (d + 4) 93 [.ptr b 0, .ptr q 0] h) (memberF u w i) := by
 have hx := memberByte_r (n := n) (d := d) M.at0.1 M.at0.2.1 hi hu
 unfold memberF
 have bS := M.at0.2.2
 have up : ∀ {h1 : AHeap} {p : Nat}, Rd h1 b u p → Tch [b] h h1 → Tch S h0 h1 := fun k t => (Mem.upd (xs := []) M t k).tch
 cases hm : memB2 u i with
 | error e =>
  rw [hm] at hx
  refine StepM.err_of ?_
  rw [w_pattern_reader_member]
  unfold pattern_reader_member
  exact Wp.stepE hx fun h' p' k1 k2 => ⟨rfl, p', k1, up k1 k2⟩
 | ok cj =>
  obtain ⟨c, j⟩ := cj
  rw [hm] at hx
  obtain ⟨c1, c2, c3⟩ := memB2_ok hm
  by_cases h45 : at? u j = some 45
  ·show StepM S h0 xs b q u _ (if at? u j = some 45 then _ else _)
   rw [if_pos h45]
   obtain ⟨hj, _⟩ := at?_some h45
   cases hm2 : memB2 u (j + 1) with
   | error e =>
    refine StepM.err_of ?_
    rw [w_pattern_reader_member]
    unfold pattern_reader_member
    refine Wp.stepK hx fun h1 k1 t1 => ?_
    have hs := skips_r (n := n) (d := d) k1 (lt_tch t1 M.at0.2.1) c3 hu 45
    rw [if_pos h45, decide_eq_true h45] at hs
    repeat (((with_reducible apply Wp.obind); (with_reducible exact avInt_int _ _)))
    refine Wp.stepN hs fun h2 k2 t2 => ?_
    have hx2 := memberByte_r (n := n) (d := d) k2 (lt_tch (t1.trans t2) M.at0.2.1) (by omega) hu
    rw [hm2] at hx2
    repeat (first | (with_reducible refine Wp.join1 (fun _ _ => ?_)) | ((with_reducible apply Wp.obind); (with_reducible exact avBool_bool _)) | ((with_reducible refine Wp.ift ?_ ?_); (with_reducible rfl)))
    exact Wp.stepE hx2 fun h' p' k3 t3 => ⟨rfl, p', k3, up k3 ((t1.trans t2).trans t3)⟩
   | ok ek =>
    obtain ⟨e, k⟩ := ek
    obtain ⟨e1, e2, e3⟩ := memB2_ok hm2
    show StepM S h0 xs b q u _ (if e < c then _ else _)
    by_cases hlt : e < c
    ·rw [if_pos hlt]
     obtain ⟨k', rfl⟩ : ∃ k', k = k' + 1 := ⟨k - 1, by omega⟩
     refine StepM.err_of ?_
     rw [w_pattern_reader_member]
     unfold pattern_reader_member
     refine Wp.stepK hx fun h1 k1 t1 => ?_
     have hs := skips_r (n := n) (d := d) k1 (lt_tch t1 M.at0.2.1) c3 hu 45
     rw [if_pos h45, decide_eq_true h45] at hs
     repeat (((with_reducible apply Wp.obind); (with_reducible exact avInt_int _ _)))
     refine Wp.stepN hs fun h2 k2 t2 => ?_
     have hx2 := memberByte_r (n := n) (d := d) k2 (lt_tch (t1.trans t2) M.at0.2.1) (by omega) hu
     rw [hm2] at hx2
     repeat (first | (with_reducible refine Wp.join1 (fun _ _ => ?_)) | ((with_reducible apply Wp.obind); (with_reducible exact avBool_bool _)) | ((with_reducible refine Wp.ift ?_ ?_); (with_reducible rfl)))
     refine Wp.stepK hx2 fun h3 k3 t3 => ?_
     have hr := refuseLast_r (n := n) (d := d + 1) k3 (by omega) hu
     repeat (first | (with_reducible refine Wp.join0 (fun _ _ => ?_)) | (with_reducible refine Wp.lett ?_) | ((with_reducible apply Wp.obind); (with_reducible exact avInt_int _ _)) | ((with_reducible refine Wp.ift ?_ ?_); ((with_reducible apply decide_eq_true); omega)))
     exact Wp.callP hr ⟨rfl, _, k3, up k3 ((t1.trans t2).trans t3)⟩
    ·rw [if_neg hlt]
     refine StepM.ok_of ?_
     rw [w_pattern_reader_member]
     unfold pattern_reader_member
     refine Wp.stepK hx fun h1 k1 t1 => ?_
     have hs := skips_r (n := n) (d := d) k1 (lt_tch t1 M.at0.2.1) c3 hu 45
     rw [if_pos h45, decide_eq_true h45] at hs
     repeat (((with_reducible apply Wp.obind); (with_reducible exact avInt_int _ _)))
     refine Wp.stepN hs fun h2 k2 t2 => ?_
     have hx2 := memberByte_r (n := n) (d := d) k2 (lt_tch (t1.trans t2) M.at0.2.1) (by omega) hu
     rw [hm2] at hx2
     repeat (first | (with_reducible refine Wp.join1 (fun _ _ => ?_)) | ((with_reducible apply Wp.obind); (with_reducible exact avBool_bool _)) | ((with_reducible refine Wp.ift ?_ ?_); (with_reducible rfl)))
     refine Wp.stepK hx2 fun h3 k3 t3 => ?_
     obtain ⟨h4, e4, M4⟩ := addSpan_m (n := n) (d := d + 2) hn (by omega : c ≤ e) e1 hw (Mem.upd (xs := []) M ((t1.trans t2).trans t3) k3)
     repeat (first | (with_reducible refine Wp.join0 (fun _ _ => ?_)) | (with_reducible refine Wp.lett ?_) | ((with_reducible apply Wp.obind); (with_reducible exact avInt_int _ _)) | ((with_reducible refine Wp.iff ?_ ?_); ((with_reducible apply decide_eq_false); omega)) | ((with_reducible apply Wp.callN); (with_reducible assumption)) | (with_reducible first | refine Wp.go0 (by assumption) ?_ | refine Wp.go1 (by assumption) ?_))
     exact Wp.ret ⟨rfl, M4⟩
  ·show StepM S h0 xs b q u _ (if at? u j = some 45 then _ else _)
   rw [if_neg h45]
   refine StepM.ok_of ?_
   rw [w_pattern_reader_member]
   unfold pattern_reader_member
   refine Wp.stepK hx fun h1 k1 t1 => ?_
   have hs := skips_r (n := n) (d := d) k1 (lt_tch t1 M.at0.2.1) c3 hu 45
   rw [if_neg h45, decide_eq_false h45] at hs
   repeat (((with_reducible apply Wp.obind); (with_reducible exact avInt_int _ _)))
   refine Wp.stepN hs fun h2 k2 t2 => ?_
   obtain ⟨h4, e4, M4⟩ := addSpan_m (n := n) (d := d + 2) hn (Nat.le_refl c) c1 hw (Mem.upd (xs := []) M (t1.trans t2) k2)
   rw [show c + 1 - c = 1 by omega] at M4
   repeat (first | (with_reducible refine Wp.join1 (fun _ _ => ?_)) | ((with_reducible apply Wp.obind); (with_reducible exact avBool_bool _)) | ((with_reducible refine Wp.iff ?_ ?_); (with_reducible rfl)) | ((with_reducible apply Wp.callN); (with_reducible assumption)) | (with_reducible refine Wp.go1 (by assumption) ?_))
   exact Wp.ret ⟨rfl, M4⟩
end
section
variable {n d b p q i : Nat} {h h0 : AHeap} {u : Bytes} {Q : ARes → AHeap → Prop} {S : List Nat} {xs : List RowT} {w : List Nat}
theorem members_loop (hu : u.length ≤ 1000000) : ∀ (k j : Nat) (w : List Nat), j ≤ u.length → u.length - j < k → WordsOk w → ∃ r, LoopP u w j r ∧ (∀ w' j', r = .ok (w', j') → WordsOk w' ∧ j < j' ∧ j' ≤ u.length) ∧ (∀ e, r = .error e → e ≤ u.length) ∧
   ∀ {n d f b q : Nat} {S : List Nat} {h0 H hp0 : AHeap} {xs : List RowT} {k16 : AHeap → R} {Q : ARes → AHeap → Prop}, newP hp0 = .ptr q 0 → u.length - j < f → 300 < n → Mem S h0 H ((b, TRd, rdP u j) :: (q, TSet, wordsA w) :: xs) →
    (∀ w' j' H', r = .ok (w', j') → Mem S h0 H' ((b, TRd, rdP u j') :: (q, TSet, wordsA w') :: xs) → Wp (k16 H') Q) →
    (∀ e p H', r = .error e → Rd H' b u p → Tch S h0 H' → Q (.panic (PanA 6 e)) H') →
    Wp (pattern_reader_members_L1 (world n (d + 4)) (.ptr b 0) hp0 k16 f H) Q
 | 0, _, _, _, hk, _ => by omega
 | k + 1, j, w, hj, hk, hw => by
  by_cases h93 : at? u j = some 93
  ·obtain ⟨hp, _⟩ := at?_some h93
   refine ⟨.ok (w, j + 1), .done h93, ?_, ?_, ?_⟩
   ·intro w' j' e
    cases e
    exact ⟨hw, by omega, by omega⟩
   ·intro e he
    cases he
   ·intro n d f b q S h0 H hp0 xs k16 Q eq hf hn M hok hbad
    cases f with
    | zero => omega
    | succ f =>
     rw [pattern_reader_members_L1_s]
     unfold pattern_reader_members_L1b
     have hs := skips_r (n := n) (d := d + 1) M.at0.1 M.at0.2.1 hj hu 93
     rw [if_pos h93, decide_eq_true h93] at hs
     refine Wp.stepN hs fun h1 k1 t1 => ?_
     repeat (first | (with_reducible refine Wp.lett ?_) | ((with_reducible apply Wp.obind); (with_reducible exact avBool_bool _)) | ((with_reducible refine Wp.iff ?_ ?_); (with_reducible exact Bool.not_true)))
     exact hok w (j + 1) h1 rfl (Mem.upd (xs := []) M t1 k1)
  ·cases hm : memberF u w j with
   | error e =>
    refine ⟨.error e, .bad h93 hm, ?_, ?_, ?_⟩
    ·intro w' j' e
     cases e
    ·intro e' he
     cases he
     exact memberF_bad hj hm
    ·intro n d f b q S h0 H hp0 xs k16 Q eq hf hn M hok hbad
     cases f with
     | zero => omega
     | succ f =>
      rw [pattern_reader_members_L1_s]
      unfold pattern_reader_members_L1b
      have hs := skips_r (n := n) (d := d + 1) M.at0.1 M.at0.2.1 hj hu 93
      rw [if_neg h93, decide_eq_false h93] at hs
      refine Wp.stepN hs fun h1 k1 t1 => ?_
      have hx := member_r (n := n) (d := d) hn hw (Mem.upd (xs := []) M t1 k1) hj hu
      rw [hm] at hx
      obtain ⟨h2, p2, e2, k2, t2⟩ := hx
      rw [eq]
      repeat (first | (with_reducible refine Wp.lett ?_) | ((with_reducible apply Wp.obind); (with_reducible exact avBool_bool _)) | ((with_reducible refine Wp.ift ?_ ?_); (with_reducible exact Bool.not_false)))
      exact Wp.callP e2 (hbad e p2 h2 rfl k2 t2)
   | ok wj =>
    obtain ⟨w', j'⟩ := wj
    obtain ⟨m1, m2, m3⟩ := memberF_ok hw hm
    obtain ⟨r, r1, r2, r3, r4⟩ := members_loop hu k j' w' m3 (by omega) m1
    refine ⟨r, .more h93 hm r1, ?_, r3, ?_⟩
    ·intro w2 j2 e
     obtain ⟨a1, a2, a3⟩ := r2 w2 j2 e
     exact ⟨a1, by omega, a3⟩
    ·intro n d f b q S h0 H hp0 xs k16 Q eq hf hn M hok hbad
     cases f with
     | zero => omega
     | succ f =>
      rw [pattern_reader_members_L1_s]
      unfold pattern_reader_members_L1b
      have hs := skips_r (n := n) (d := d + 1) M.at0.1 M.at0.2.1 hj hu 93
      rw [if_neg h93, decide_eq_false h93] at hs
      refine Wp.stepN hs fun h1 k1 t1 => ?_
      have hx := member_r (n := n) (d := d) hn hw (Mem.upd (xs := []) M t1 k1) hj hu
      rw [hm] at hx
      obtain ⟨h2, e2, M2⟩ := hx
      rw [eq]
      repeat (first | (with_reducible refine Wp.lett ?_) | ((with_reducible apply Wp.obind); (with_reducible exact avBool_bool _)) | ((with_reducible refine Wp.ift ?_ ?_); (with_reducible exact Bool.not_false)) | ((with_reducible apply Wp.callK); (with_reducible assumption)))
      exact r4 eq (by omega) hn M2 hok hbad
theorem others_loop {hp0 : AHeap} {k29 : AHeap → R} {y : RowT} (eq : newP hp0 = .ptr q 0) : ∀ (v2 v1 : List Nat) (f : Nat) (H : AHeap), v2.length < f → v1.length + v2.length = 4 → (∀ x ∈ v2, x < 18446744073709551616) → Mem S h0 H (y :: (q, TSet, wordsA v1 ++ wordsA v2) :: xs) →
   (∀ H', Mem S h0 H' (y :: (q, TSet, wordsA v1 ++ wordsA (othersW v2)) :: xs) → Wp (k29 H') Q) → Wp (pattern_reader_members_L0 hp0 k29 f ((v1.length : Nat) : Int) H) Q
 | _, _, 0, _, hf, _, _, _, _ => by omega
 | [], v1, f + 1, H, hf, hl, hs, M, hk => by
  rw [pattern_reader_members_L0_s]
  unfold pattern_reader_members_L0b
  rw [List.length_nil] at hl
  repeat (first | (with_reducible refine Wp.lett ?_) | ((with_reducible refine Wp.iff ?_ ?_); ((with_reducible apply decide_eq_false); omega)))
  exact hk H M
 | x :: v2, v1, f + 1, H, hf, hl, hs, M, hk => by
  rw [pattern_reader_members_L0_s]
  unfold pattern_reader_members_L0b
  rw [List.length_cons] at hl hf
  have hx := hs x List.mem_cons_self
  rw [eq]
  have e1 := idxA_ptr (n := 4) (b := q) (o := 0) (i := v1.length) (by omega)
  rw [Nat.zero_add] at e1
  have hlv := wordsA_len v1
  have ho : (wordsA v1 ++ wordsA (x :: v2))[v1.length]? = some (.int .u64 (x : Int)) := by
   rw [List.getElem?_append_right (by omega), hlv, Nat.sub_self]
   rfl
  repeat (first | (with_reducible refine Wp.lett ?_) | ((with_reducible apply Wp.obind); (with_reducible exact e1)) | ((with_reducible refine Wp.ift ?_ ?_); ((with_reducible apply decide_eq_true); omega)))
  refine Wp.ld1 M ho ?_
  repeat (first | (with_reducible refine Wp.lett ?_) | ((with_reducible apply Wp.obind); (with_reducible first | exact e1 | exact avInt_int _ _)))
  rw [show (18446744073709551615 : Int) = ((18446744073709551615 : Nat) : Int) from rfl, xorI_nat hx (by omega)]
  refine Wp.ms1 M (by simp [wordsA_len]) rfl fun H' M' => ?_
  have es : (wordsA v1 ++ wordsA (x :: v2)).set v1.length (.int .u64 ((x ^^^ 18446744073709551615 : Nat) : Int)) = wordsA (v1 ++ [x ^^^ 18446744073709551615]) ++ wordsA v2 := by
   rw [List.set_append_right _ _ (by omega), hlv, Nat.sub_self]
   simp [wordsA]
  rw [es] at M'
  repeat (((with_reducible refine Wp.lettw ?_ ?_ ?_); omega; omega))
  have el : (v1.length : Int) + 1 = (((v1 ++ [x ^^^ 18446744073709551615]).length : Nat) : Int) := by simp
  rw [el]
  refine others_loop eq v2 (v1 ++ [x ^^^ 18446744073709551615]) f H' (by omega) (by simp; omega) (fun z hz => hs z (List.mem_cons_of_mem _ hz)) M' fun H2 M2 => hk H2 ?_
  have e2 : wordsA (v1 ++ [x ^^^ 18446744073709551615]) ++ wordsA (othersW v2) = wordsA v1 ++ wordsA (othersW (x :: v2)) := by simp [wordsA, othersW]
  rw [e2] at M2
  exact M2
theorem members_r (hu : u.length ≤ 1000000) (hi : i ≤ u.length) : ∃ r, SetP u i r ∧ (∀ w j, r = .ok (w, j) → WordsOk w ∧ i < j ∧ j ≤ u.length) ∧ (∀ e, r = .error e → e ≤ u.length) ∧
  ∀ {n d b : Nat} {h : AHeap}, 300 < n → u.length < n → Rd h b u i → b < h.next → Step b u h (world n (d + 5) 91 [.ptr b 0] h) (setR r) := by
 have hb1 : setB u i ≤ u.length ∧ i ≤ setB u i := by
  unfold setB
  by_cases h94 : at? u i = some 94
  ·obtain ⟨hp, _⟩ := at?_some h94
   rw [if_pos h94]
   omega
  ·rw [if_neg h94]
   omega
 cases hm : memberF u zeroW (setB u i) with
 | error e =>
  refine ⟨.error e, .bad hm, ?_, ?_, ?_⟩
  ·intro w j hh
   cases hh
  ·intro e' hh
   cases hh
   exact memberF_bad hb1.1 hm
  ·intro n d b h hn hn2 k hb
   refine Step.err_of ?_
   have hs := fun (h' : AHeap) (k' : Rd h' b u i) (hb' : b < h'.next) => skips_r (n := n) (d := d + 1) k' hb' hi hu 94
   rw [w_pattern_reader_members]
   unfold pattern_reader_members
   have Mx := Mem.one k hb
   repeat (first | ((with_reducible apply Wp.mnew Mx); intro _ Mz; clear Mx; have Mx := Mz; clear Mz) | rw [newP_eq])
   have hs1 := hs _ Mx.at1.1 Mx.at1.2.1
   refine Wp.stepN hs1 fun h1 k1 t1 => ?_
   have Mz := Mem.upd (xs := [_]) Mx t1 k1
   clear Mx
   have Mx := Mz
   clear Mz
   repeat (first | ((with_reducible apply Wp.obind); (with_reducible exact avBool_bool _)) | ((with_reducible apply Wp.mnew Mx); intro _ Mz; clear Mx; have Mx := Mz; clear Mz) | rw [newP_eq])
   have M2 : Mem _ _ _ ((b, TRd, rdP u (setB u i)) :: (h1.next, TSet, wordsA zeroW) :: [_]) := Mx.perm (List.perm_append_comm (l₁ := [_]) (l₂ := [_, _]))
   have hx := member_r (n := n) (d := d) hn zeroW_ok M2 hb1.1 hu
   rw [hm] at hx
   obtain ⟨h2, p2, e2, k2, t2⟩ := hx
   exact Wp.callP e2 ⟨rfl, p2, k2, t2⟩
 | ok wj =>
  obtain ⟨w, j⟩ := wj
  obtain ⟨m1, m2, m3⟩ := memberF_ok zeroW_ok hm
  obtain ⟨r, r1, r2, r3, r4⟩ := members_loop hu (u.length + 1) j w m3 (by omega) m1
  refine ⟨othersR u i r, .set hm r1, ?_, ?_, ?_⟩
  ·intro w' j' hh
   cases r with
   | error e => cases hh
   | ok wj2 =>
    obtain ⟨w2, j2⟩ := wj2
    obtain ⟨a1, a2, a3⟩ := r2 w2 j2 rfl
    cases hh
    refine ⟨?_, by omega, a3⟩
    split
    ·exact othersW_ok a1
    ·exact a1
  ·intro e hh
   cases r with
   | error e' =>
    cases hh
    exact r3 _ rfl
   | ok wj2 => cases hh
  ·intro n d b h hn hn2 k hb
   have main : ∀ Q : ARes → AHeap → Prop, (∀ w' j' H', r = .ok (w', j') → Rd H' b u j' → Tch [b] h H' → Q (.ret (.agg (wordsA (if at? u i = some 94 then othersW w' else w')))) H') → (∀ e p H', r = .error e → Rd H' b u p → Tch [b] h H' → Q (.panic (PanA 6 e)) H') → Wp (world n (d + 5) 91 [.ptr b 0] h) Q := by
    intro Q q1 q2
    have hs := fun (h' : AHeap) (k' : Rd h' b u i) (hb' : b < h'.next) => skips_r (n := n) (d := d + 1) k' hb' hi hu 94
    rw [w_pattern_reader_members]
    unfold pattern_reader_members
    have Mx := Mem.one k hb
    repeat (first | ((with_reducible apply Wp.mnew Mx); intro _ Mz; clear Mx; have Mx := Mz; clear Mz) | rw [newP_eq])
    have hs1 := hs _ Mx.at1.1 Mx.at1.2.1
    refine Wp.stepN hs1 fun h1 k1 t1 => ?_
    have Mz := Mem.upd (xs := [_]) Mx t1 k1
    clear Mx
    have Mx := Mz
    clear Mz
    repeat (first | ((with_reducible apply Wp.obind); (with_reducible exact avBool_bool _)) | ((with_reducible apply Wp.mnew Mx); intro _ Mz; clear Mx; have Mx := Mz; clear Mz) | rw [newP_eq])
    have M2 : Mem _ _ _ ((b, TRd, rdP u (setB u i)) :: (h1.next, TSet, wordsA zeroW) :: [_]) := Mx.perm (List.perm_append_comm (l₁ := [_]) (l₂ := [_, _]))
    have hx := member_r (n := n) (d := d) hn zeroW_ok M2 hb1.1 hu
    rw [hm] at hx
    obtain ⟨h2, e2, M3⟩ := hx
    refine Wp.callK e2 ?_
    ((with_reducible refine Wp.join0 (fun _ _ => ?_)))
    rename_i k16 ek16
    refine r4 (newP_eq h1) (by omega) hn M3 ?_ ?_
    ·intro w' j' H' hr M4
     obtain ⟨a1, a2, a3⟩ := r2 w' j' hr
     ((with_reducible refine Wp.go0 (by assumption) ?_))
     ((with_reducible refine Wp.join0 (fun _ _ => ?_)))
     rename_i k20 ek20
     have fin : ∀ {w2 : List Nat} {H2 : AHeap}, WordsOk w2 → w2 = (if at? u i = some 94 then othersW w' else w') → Mem [b] h H2 ((b, TRd, rdP u j') :: (h1.next, TSet, wordsA w2) :: [(h.next, TSet, [.int .u64 0, .int .u64 0, .int .u64 0, .int .u64 0])]) → Wp (k20 H2) Q := by
      intro w2 H2 o2 ew M5
      have hl : (wordsA w2).length = 4 := by rw [wordsA_len, o2.len]
      refine Wp.go0 ek20 ?_
      refine Wp.lr1 M5 hl ?_
      refine Wp.sa2 M5 hl rfl (wordsA_one _) fun H3 M6 => ?_
      refine Wp.lr2 M6 hl ?_
      rw [ew] at M6 ⊢
      exact Wp.ret (q1 w' j' H3 hr M6.at0.1 M6.tch)
     by_cases h94 : at? u i = some 94
     ·(((with_reducible refine Wp.ift ?_ ?_); ((with_reducible apply decide_eq_true); omega)))
      ((with_reducible refine Wp.join0 (fun _ _ => ?_)))
      rename_i k29 ek29
      have ho := others_loop (S := [b]) (h0 := h) (k29 := k29) (Q := Q) (newP_eq h1) w' [] n H' (by rw [a1.len]; omega) (by rw [a1.len]; rfl) a1.small (by exact M4)
      refine ho fun H2 M5 => ?_
      refine Wp.go0 ek29 ?_
      exact fin (othersW_ok a1) (by rw [if_pos h94]) M5
     ·(((with_reducible refine Wp.iff ?_ ?_); ((with_reducible apply decide_eq_false); omega)))
      exact fin a1 (by rw [if_neg h94]) M4
    ·intro e p H' hr k5 t5
     exact q2 e p H' hr k5 t5
   cases r with
   | error e => exact Step.err_of (main _ (fun w' j' H' hh => by cases hh) fun e' p H' hh k5 t5 => by cases hh; exact ⟨rfl, p, k5, t5⟩)
   | ok wj2 =>
    obtain ⟨w2, j2⟩ := wj2
    exact Step.ok_of (main _ (fun w' j' H' hh k5 t5 => by cases hh; exact ⟨rfl, k5, t5⟩) fun e' p H' hh => by cases hh)
end
end Go.Proofs.Yteibdplpbcobbaa
namespace Go.Proofs.Yteibdplpbcobbaa
open Go.RowKit Abs
def Bnd (u : Bytes) (i : Nat) : Res → Prop
 | .ok (_, j) => i ≤ j ∧ j ≤ u.length
 | .error q => q ≤ u.length
def Bnd1 (u : Bytes) (i : Nat) : Res → Prop
 | .ok (_, j) => i < j ∧ j ≤ u.length
 | .error q => q ≤ u.length
def AltOk (u : Bytes) (m : Nat) : Prop := ∀ i, i ≤ u.length → u.length - i ≤ m → ∃ r, AltP u [] i r ∧ Bnd u i r ∧
 ∀ {n D b : Nat} {h : AHeap}, 4 * m + 9 ≤ D → 300 < n → u.length + 5 < n → Rd h b u i → b < h.next → memB TNode h.ex = false → StepN b u h (world n D 61 [.ptr b 0] h) r
def RowOk (u : Bytes) (m : Nat) : Prop := ∀ i, i ≤ u.length → u.length - i ≤ m → ∃ r, RowP u [] i r ∧ Bnd u i r ∧
 ∀ {n D b : Nat} {h : AHeap}, 4 * m + 8 ≤ D → 300 < n → u.length + 5 < n → Rd h b u i → b < h.next → memB TNode h.ex = false → StepN b u h (world n D 79 [.ptr b 0] h) r
def PartOk (u : Bytes) (m : Nat) : Prop := ∀ i, i ≤ u.length → u.length - i ≤ m → ∃ r, PartP u i r ∧ Bnd1 u i r ∧
 ∀ {n D b : Nat} {h : AHeap}, 4 * m + 7 ≤ D → 300 < n → u.length + 5 < n → Rd h b u i → b < h.next → memB TNode h.ex = false → StepN b u h (world n D 85 [.ptr b 0] h) r
def AtomOk (u : Bytes) (m : Nat) : Prop := ∀ i, i ≤ u.length → u.length - i ≤ m → ∃ r, AtomP u i r ∧ Bnd1 u i r ∧
 ∀ {n D b : Nat} {h : AHeap}, 4 * m + 6 ≤ D → 300 < n → u.length + 5 < n → Rd h b u i → b < h.next → memB TNode h.ex = false → StepN b u h (world n D 88 [.ptr b 0] h) r
section
variable {n d b p q i : Nat} {h h0 : AHeap} {u : Bytes} {Q : ARes → AHeap → Prop} {S : List Nat} {xs rs T : List RowT} {w : List Nat} {x : R} {k : AV → AHeap → R} {t : Nd} {c : List AV} {v : AV}
theorem StepN.ok_of (kk : Wp x fun r h' => ∃ c T, r = .ret (.agg c) ∧ NodeT t c T ∧ Mem [b] h h' ((b, TRd, rdP u p) :: T)) : StepN b u h x (.ok (t, p)) := by
 obtain ⟨_, h', e, c, T, rfl, k1, k2⟩ := kk
 exact ⟨c, T, h', e, k1, k2⟩
theorem StepN.err_of (kk : Wp x fun r h' => r = .panic (PanA 6 q) ∧ ∃ p, Rd h' b u p ∧ Tch [b] h h') : StepN b u h x (.error q) := by
 obtain ⟨_, h', e, rfl, p, k1, k2⟩ := kk
 exact ⟨h', p, e, k1, k2⟩
theorem Wp.nodeK (hx : StepN b u h x (.ok (t, p))) (M : Mem S h0 h ((b, TRd, rdP u i) :: rs)) (hk : ∀ c T h', NodeT t c T → Mem S h0 h' ((b, TRd, rdP u p) :: (rs ++ T)) → Wp (k (.agg c) h') Q) : Wp (callK x k) Q := by
 obtain ⟨c, T, h', e, kt, M'⟩ := hx
 exact Wp.callK e (hk c T h' kt (Mem.frameT (xs := [_]) (ys := [_]) M M'))
theorem Wp.nodeE (hx : StepN b u h x (.error q)) (M : Mem S h0 h ((b, TRd, rdP u i) :: rs)) (hq : ∀ h' p, Rd h' b u p → Tch S h0 h' → Q (.panic (PanA 6 q)) h') : Wp (callK x k) Q := by
 obtain ⟨h', p, e, k1, k2⟩ := hx
 exact Wp.callP e (hq h' p k1 (Mem.upd (xs := []) M k2 k1).tch)
theorem Wp.rdK (hx : Step b u h x (.ok (v, p))) (M : Mem S h0 h ((b, TRd, rdP u i) :: rs)) (hk : ∀ h', Mem S h0 h' ((b, TRd, rdP u p) :: rs) → Wp (k v h') Q) : Wp (callK x k) Q :=
 Wp.stepK hx fun h' k1 t1 => hk h' (Mem.upd (xs := []) M t1 k1)
theorem Wp.rdN (hx : Step b u h x (.ok (v, p))) (M : Mem S h0 h ((b, TRd, rdP u i) :: rs)) (hk : ∀ h', Mem S h0 h' ((b, TRd, rdP u p) :: rs) → Wp (k v h') Q) : Wp (callN x k) Q :=
 Wp.stepN hx fun h' k1 t1 => hk h' (Mem.upd (xs := []) M t1 k1)
theorem Wp.rdE (hx : Step b u h x (.error (6, q))) (M : Mem S h0 h ((b, TRd, rdP u i) :: rs)) (hq : ∀ h' p, Rd h' b u p → Tch S h0 h' → Q (.panic (PanA 6 q)) h') : Wp (callK x k) Q :=
 Wp.stepE hx fun h' p k1 t1 => hq h' p k1 (Mem.upd (xs := []) M t1 k1).tch
theorem fin_node {r0 : Nat} {l : List AV} (M : Mem S h0 h ((b, TRd, rdP u p) :: (r0, TNode, l) :: T)) (hl : l.length = 6) (kt : NodeT t c T) : Wp (obind (stRow h 6 c (.ptr r0 0)) fun h1 => obind (ldRow h1 6 (.ptr r0 0)) fun w => some (.ret (.agg w), h1)) fun r h' => ∃ c T, r = .ret (.agg c) ∧ NodeT t c T ∧ Mem S h0 h' ((b, TRd, rdP u p) :: T) := by
 refine Wp.sa1 M kt.len hl kt.one fun h1 M1 => ?_
 refine Wp.lr1 M1 kt.len ?_
 exact Wp.ret ⟨c, T, rfl, kt, mem_mid (xs := [_]) (T0 := [_]) M1⟩
theorem atom_ok (hu : u.length ≤ 1000000) {m : Nat} (ih : ∀ m', m = m' + 1 → AltOk u m') : AtomOk u m := by
 intro i hi hm
 cases hc : at? u i with
 | none =>
  refine ⟨_, .none hc, hi, ?_⟩
  intro n D b h hD hn hn2 k0 hb hx
  obtain ⟨D, rfl⟩ : ∃ D', D = D' + 6 := ⟨D - 6, by omega⟩
  refine StepN.err_of ?_
  rw [w_pattern_reader_atom]
  unfold pattern_reader_atom
  have Mx := Mem.one k0 hb
  repeat (first | ((with_reducible apply Wp.mnew Mx); intro _ Mz; clear Mx; have Mx := Mz; clear Mz) | rw [newP_eq])
  have M1 := Mx.swap
  have hs := next_r (n := n) (d := D + 3) M1.at0.1 M1.at0.2.1 hi hu
  rw [hc] at hs
  exact Wp.rdE hs M1 fun h' p k1 t1 => ⟨rfl, p, k1, t1⟩
 | some c =>
  obtain ⟨hp, _⟩ := at?_some hc
  have h256 := at?_256 hc
  by_cases h40 : c = 40
  ·subst h40
   obtain ⟨m', rfl⟩ : ∃ m', m = m' + 1 := ⟨m - 1, by omega⟩
   obtain ⟨r, r1, r2, r3⟩ := ih m' rfl (i + 1) (by omega) (by omega)
   cases r with
   | error q =>
    refine ⟨_, .open_bad hc r1, r2, ?_⟩
    intro n D b h hD hn hn2 k0 hb hx
    obtain ⟨D, rfl⟩ : ∃ D', D = D' + 6 := ⟨D - 6, by omega⟩
    refine StepN.err_of ?_
    rw [w_pattern_reader_atom]
    unfold pattern_reader_atom
    have Mx := Mem.one k0 hb
    repeat (first | ((with_reducible apply Wp.mnew Mx); intro _ Mz; clear Mx; have Mx := Mz; clear Mz) | rw [newP_eq])
    have M1 := Mx.swap
    have hs := next_r (n := n) (d := D + 3) M1.at0.1 M1.at0.2.1 hi hu
    rw [hc] at hs
    refine Wp.rdK hs M1 fun h1 M2 => ?_
    have hs2 := r3 (n := n) (D := D + 5) (by omega) hn hn2 M2.at0.1 M2.at0.2.1 (by rw [M2.ex]; exact hx)
    repeat (first | (with_reducible refine Wp.lett ?_) | ((with_reducible apply Wp.obind); (with_reducible exact avInt_int _ _)) | ((with_reducible refine Wp.ift ?_ ?_); ((with_reducible apply beq_t); omega)))
    exact Wp.nodeE hs2 M2 fun h' p k1 t1 => ⟨rfl, p, k1, t1⟩
   | ok tj =>
    obtain ⟨t, j⟩ := tj
    obtain ⟨b1, b2⟩ := r2
    by_cases h41 : at? u j = some 41
    ·obtain ⟨hj, _⟩ := at?_some h41
     refine ⟨_, .group hc r1 h41, ⟨by omega, by omega⟩, ?_⟩
     intro n D b h hD hn hn2 k0 hb hx
     obtain ⟨D, rfl⟩ : ∃ D', D = D' + 6 := ⟨D - 6, by omega⟩
     refine StepN.ok_of ?_
     rw [w_pattern_reader_atom]
     unfold pattern_reader_atom
     have Mx := Mem.one k0 hb
     repeat (first | ((with_reducible apply Wp.mnew Mx); intro _ Mz; clear Mx; have Mx := Mz; clear Mz) | rw [newP_eq])
     have M1 := Mx.swap
     have hs := next_r (n := n) (d := D + 3) M1.at0.1 M1.at0.2.1 hi hu
     rw [hc] at hs
     refine Wp.rdK hs M1 fun h1 M2 => ?_
     have hs2 := r3 (n := n) (D := D + 5) (by omega) hn hn2 M2.at0.1 M2.at0.2.1 (by rw [M2.ex]; exact hx)
     repeat (first | (with_reducible refine Wp.lett ?_) | ((with_reducible apply Wp.obind); (with_reducible exact avInt_int _ _)) | ((with_reducible refine Wp.ift ?_ ?_); ((with_reducible apply beq_t); omega)))
     refine Wp.nodeK hs2 M2 fun c T h2 kt M3 => ?_
     (((with_reducible apply Wp.obind); (with_reducible exact avAgg_agg _)))
     refine Wp.mnew M3 fun h3 M4 => ?_
     rw [newP_eq]
     refine Wp.sa0 M4 kt.len rfl kt.one fun h4 M5 => ?_
     have M6 := M5.swap
     have hs3 := take_r (n := n) (d := D + 1) M6.at0.1 M6.at0.2.1 b2 hu 41
     rw [if_pos h41] at hs3
     refine Wp.rdK hs3 M6 fun h5 M7 => ?_
     refine Wp.lr1 M7 kt.len ?_
     exact fin_node (mem_mid (xs := [_]) (T0 := [_]) M7) rfl kt
    ·refine ⟨_, .open_end hc r1 h41, b2, ?_⟩
     intro n D b h hD hn hn2 k0 hb hx
     obtain ⟨D, rfl⟩ : ∃ D', D = D' + 6 := ⟨D - 6, by omega⟩
     refine StepN.err_of ?_
     rw [w_pattern_reader_atom]
     unfold pattern_reader_atom
     have Mx := Mem.one k0 hb
     repeat (first | ((with_reducible apply Wp.mnew Mx); intro _ Mz; clear Mx; have Mx := Mz; clear Mz) | rw [newP_eq])
     have M1 := Mx.swap
     have hs := next_r (n := n) (d := D + 3) M1.at0.1 M1.at0.2.1 hi hu
     rw [hc] at hs
     refine Wp.rdK hs M1 fun h1 M2 => ?_
     have hs2 := r3 (n := n) (D := D + 5) (by omega) hn hn2 M2.at0.1 M2.at0.2.1 (by rw [M2.ex]; exact hx)
     repeat (first | (with_reducible refine Wp.lett ?_) | ((with_reducible apply Wp.obind); (with_reducible exact avInt_int _ _)) | ((with_reducible refine Wp.ift ?_ ?_); ((with_reducible apply beq_t); omega)))
     refine Wp.nodeK hs2 M2 fun c T h2 kt M3 => ?_
     (((with_reducible apply Wp.obind); (with_reducible exact avAgg_agg _)))
     refine Wp.mnew M3 fun h3 M4 => ?_
     rw [newP_eq]
     refine Wp.sa0 M4 kt.len rfl kt.one fun h4 M5 => ?_
     have M6 := M5.swap
     have hs3 := take_r (n := n) (d := D + 1) M6.at0.1 M6.at0.2.1 b2 hu 41
     rw [if_neg h41] at hs3
     exact Wp.rdE hs3 M6 fun h' p k1 t1 => ⟨rfl, p, k1, t1⟩
  by_cases h46 : c = 46
  ·subst h46
   refine ⟨_, .any hc, ⟨by omega, by omega⟩, ?_⟩
   intro n D b h hD hn hn2 k0 hb hx
   obtain ⟨D, rfl⟩ : ∃ D', D = D' + 6 := ⟨D - 6, by omega⟩
   refine StepN.ok_of ?_
   rw [w_pattern_reader_atom]
   unfold pattern_reader_atom
   have Mx := Mem.one k0 hb
   repeat (first | ((with_reducible apply Wp.mnew Mx); intro _ Mz; clear Mx; have Mx := Mz; clear Mz) | rw [newP_eq])
   have M1 := Mx.swap
   have hs := next_r (n := n) (d := D + 3) M1.at0.1 M1.at0.2.1 hi hu
   rw [hc] at hs
   refine Wp.rdK hs M1 fun h1 M2 => ?_
   repeat (first | (with_reducible refine Wp.lett ?_) | ((with_reducible apply Wp.obind); (with_reducible first | exact avInt_int _ _ | exact avAgg_agg _)) | ((with_reducible refine Wp.ift ?_ ?_); ((with_reducible apply beq_t); omega)) | ((with_reducible refine Wp.iff ?_ ?_); ((with_reducible apply beq_f); omega)) | ((with_reducible apply Wp.callN); (with_reducible exact anyByte_w (d := D + 3) hn)))
   exact fin_node M2 rfl (NodeT.leaf 2 anyW_ok)
  by_cases h91 : c = 91
  ·subst h91
   obtain ⟨r, r1, r2, r2', r3⟩ := members_r hu (i := i + 1) (by omega)
   cases r with
   | error q =>
    refine ⟨_, .set_bad hc r1, r2' q rfl, ?_⟩
    intro n D b h hD hn hn2 k0 hb hx
    obtain ⟨D, rfl⟩ : ∃ D', D = D' + 6 := ⟨D - 6, by omega⟩
    refine StepN.err_of ?_
    rw [w_pattern_reader_atom]
    unfold pattern_reader_atom
    have Mx := Mem.one k0 hb
    repeat (first | ((with_reducible apply Wp.mnew Mx); intro _ Mz; clear Mx; have Mx := Mz; clear Mz) | rw [newP_eq])
    have M1 := Mx.swap
    have hs := next_r (n := n) (d := D + 3) M1.at0.1 M1.at0.2.1 hi hu
    rw [hc] at hs
    refine Wp.rdK hs M1 fun h1 M2 => ?_
    have hs2 := r3 (n := n) (d := D) hn (by omega) M2.at0.1 M2.at0.2.1
    repeat (first | (with_reducible refine Wp.lett ?_) | ((with_reducible apply Wp.obind); (with_reducible exact avInt_int _ _)) | ((with_reducible refine Wp.ift ?_ ?_); ((with_reducible apply beq_t); omega)) | ((with_reducible refine Wp.iff ?_ ?_); ((with_reducible apply beq_f); omega)))
    exact Wp.rdE hs2 M2 fun h' p k1 t1 => ⟨rfl, p, k1, t1⟩
   | ok wj =>
    obtain ⟨w, j⟩ := wj
    obtain ⟨o1, o2, o3⟩ := r2 w j rfl
    refine ⟨_, .set hc r1, ⟨by omega, o3⟩, ?_⟩
    intro n D b h hD hn hn2 k0 hb hx
    obtain ⟨D, rfl⟩ : ∃ D', D = D' + 6 := ⟨D - 6, by omega⟩
    refine StepN.ok_of ?_
    rw [w_pattern_reader_atom]
    unfold pattern_reader_atom
    have Mx := Mem.one k0 hb
    repeat (first | ((with_reducible apply Wp.mnew Mx); intro _ Mz; clear Mx; have Mx := Mz; clear Mz) | rw [newP_eq])
    have M1 := Mx.swap
    have hs := next_r (n := n) (d := D + 3) M1.at0.1 M1.at0.2.1 hi hu
    rw [hc] at hs
    refine Wp.rdK hs M1 fun h1 M2 => ?_
    have hs2 := r3 (n := n) (d := D) hn (by omega) M2.at0.1 M2.at0.2.1
    repeat (first | (with_reducible refine Wp.lett ?_) | ((with_reducible apply Wp.obind); (with_reducible exact avInt_int _ _)) | ((with_reducible refine Wp.ift ?_ ?_); ((with_reducible apply beq_t); omega)) | ((with_reducible refine Wp.iff ?_ ?_); ((with_reducible apply beq_f); omega)))
    refine Wp.rdK hs2 M2 fun h2 M3 => ?_
    have hb2 := setBld o1
    repeat (((with_reducible apply Wp.obind); (with_reducible first | exact hb2 | exact avAgg_agg _)))
    exact fin_node M3 rfl (NodeT.leaf 2 o1)
  by_cases h92 : c = 92
  ·subst h92
   cases he : at? u (i + 1) with
   | none =>
    refine ⟨_, .sl_end hc he, (by show i + 1 ≤ u.length; omega), ?_⟩
    intro n D b h hD hn hn2 k0 hb hx
    obtain ⟨D, rfl⟩ : ∃ D', D = D' + 6 := ⟨D - 6, by omega⟩
    refine StepN.err_of ?_
    rw [w_pattern_reader_atom]
    unfold pattern_reader_atom
    have Mx := Mem.one k0 hb
    repeat (first | ((with_reducible apply Wp.mnew Mx); intro _ Mz; clear Mx; have Mx := Mz; clear Mz) | rw [newP_eq])
    have M1 := Mx.swap
    have hs := next_r (n := n) (d := D + 3) M1.at0.1 M1.at0.2.1 hi hu
    rw [hc] at hs
    refine Wp.rdK hs M1 fun h1 M2 => ?_
    have hs2 := next_r (n := n) (d := D + 3) M2.at0.1 M2.at0.2.1 (by omega) hu
    rw [he] at hs2
    repeat (first | (with_reducible refine Wp.lett ?_) | ((with_reducible apply Wp.obind); (with_reducible exact avInt_int _ _)) | ((with_reducible refine Wp.ift ?_ ?_); ((with_reducible apply beq_t); omega)) | ((with_reducible refine Wp.iff ?_ ?_); ((with_reducible apply beq_f); omega)))
    exact Wp.rdE hs2 M2 fun h' p k1 t1 => ⟨rfl, p, k1, t1⟩
   | some e =>
    obtain ⟨hp2, _⟩ := at?_some he
    refine ⟨_, .sl hc he, ⟨by omega, by omega⟩, ?_⟩
    intro n D b h hD hn hn2 k0 hb hx
    obtain ⟨D, rfl⟩ : ∃ D', D = D' + 6 := ⟨D - 6, by omega⟩
    refine StepN.ok_of ?_
    rw [w_pattern_reader_atom]
    unfold pattern_reader_atom
    have Mx := Mem.one k0 hb
    repeat (first | ((with_reducible apply Wp.mnew Mx); intro _ Mz; clear Mx; have Mx := Mz; clear Mz) | rw [newP_eq])
    have M1 := Mx.swap
    have hs := next_r (n := n) (d := D + 3) M1.at0.1 M1.at0.2.1 hi hu
    rw [hc] at hs
    refine Wp.rdK hs M1 fun h1 M2 => ?_
    have hs2 := next_r (n := n) (d := D + 3) M2.at0.1 M2.at0.2.1 (by omega) hu
    rw [he] at hs2
    repeat (first | (with_reducible refine Wp.lett ?_) | ((with_reducible apply Wp.obind); (with_reducible exact avInt_int _ _)) | ((with_reducible refine Wp.ift ?_ ?_); ((with_reducible apply beq_t); omega)) | ((with_reducible refine Wp.iff ?_ ?_); ((with_reducible apply beq_f); omega)))
    refine Wp.rdK hs2 M2 fun h2 M3 => ?_
    repeat (first | ((with_reducible apply Wp.obind); (with_reducible first | exact avInt_int _ _ | exact avAgg_agg _)) | ((with_reducible apply Wp.callN); (with_reducible exact oneByte_w (d := D + 3) hn (at?_256 he))))
    exact fin_node M3 rfl (NodeT.leaf 2 (spanW_ok 1 zeroW_ok e))
  by_cases hbad : badAtom c
  ·refine ⟨_, .bad hc hbad, hi, ?_⟩
   intro n D b h hD hn hn2 k0 hb hx
   obtain ⟨D, rfl⟩ : ∃ D', D = D' + 6 := ⟨D - 6, by omega⟩
   refine StepN.err_of ?_
   rw [w_pattern_reader_atom]
   unfold pattern_reader_atom
   have Mx := Mem.one k0 hb
   repeat (first | ((with_reducible apply Wp.mnew Mx); intro _ Mz; clear Mx; have Mx := Mz; clear Mz) | rw [newP_eq])
   have M1 := Mx.swap
   have hs := next_r (n := n) (d := D + 3) M1.at0.1 M1.at0.2.1 hi hu
   rw [hc] at hs
   refine Wp.rdK hs M1 fun h1 M2 => ?_
   have hr := refuseLast_r (n := n) (d := D + 3) M2.at0.1 (by omega) hu
   rcases hbad with hs | hs | hs | hs | hs | hs
   ·repeat (first | (with_reducible first | refine Wp.join0 (fun _ _ => ?_) | refine Wp.join1 (fun _ _ => ?_)) | (with_reducible refine Wp.lett ?_) | ((with_reducible apply Wp.obind); (with_reducible exact avInt_int _ _)) | ((with_reducible refine Wp.ift ?_ ?_); first | (with_reducible rfl) | ((with_reducible apply beq_t); omega)) | ((with_reducible refine Wp.iff ?_ ?_); ((with_reducible apply beq_f); omega)) | (with_reducible refine Wp.go1 (by assumption) ?_))
    exact Wp.callP hr ⟨rfl, _, M2.at0.1, M2.tch⟩
   ·repeat (first | (with_reducible first | refine Wp.join0 (fun _ _ => ?_) | refine Wp.join1 (fun _ _ => ?_)) | (with_reducible refine Wp.lett ?_) | ((with_reducible apply Wp.obind); (with_reducible exact avInt_int _ _)) | ((with_reducible refine Wp.ift ?_ ?_); first | (with_reducible rfl) | ((with_reducible apply beq_t); omega)) | ((with_reducible refine Wp.iff ?_ ?_); ((with_reducible apply beq_f); omega)) | (with_reducible refine Wp.go1 (by assumption) ?_))
    exact Wp.callP hr ⟨rfl, _, M2.at0.1, M2.tch⟩
   ·repeat (first | (with_reducible first | refine Wp.join0 (fun _ _ => ?_) | refine Wp.join1 (fun _ _ => ?_)) | (with_reducible refine Wp.lett ?_) | ((with_reducible apply Wp.obind); (with_reducible exact avInt_int _ _)) | ((with_reducible refine Wp.ift ?_ ?_); first | (with_reducible rfl) | ((with_reducible apply beq_t); omega)) | ((with_reducible refine Wp.iff ?_ ?_); ((with_reducible apply beq_f); omega)) | (with_reducible refine Wp.go1 (by assumption) ?_))
    exact Wp.callP hr ⟨rfl, _, M2.at0.1, M2.tch⟩
   ·repeat (first | (with_reducible first | refine Wp.join0 (fun _ _ => ?_) | refine Wp.join1 (fun _ _ => ?_)) | (with_reducible refine Wp.lett ?_) | ((with_reducible apply Wp.obind); (with_reducible exact avInt_int _ _)) | ((with_reducible refine Wp.ift ?_ ?_); first | (with_reducible rfl) | ((with_reducible apply beq_t); omega)) | ((with_reducible refine Wp.iff ?_ ?_); ((with_reducible apply beq_f); omega)) | (with_reducible refine Wp.go1 (by assumption) ?_))
    exact Wp.callP hr ⟨rfl, _, M2.at0.1, M2.tch⟩
   ·repeat (first | (with_reducible first | refine Wp.join0 (fun _ _ => ?_) | refine Wp.join1 (fun _ _ => ?_)) | (with_reducible refine Wp.lett ?_) | ((with_reducible apply Wp.obind); (with_reducible exact avInt_int _ _)) | ((with_reducible refine Wp.ift ?_ ?_); first | (with_reducible rfl) | ((with_reducible apply beq_t); omega)) | ((with_reducible refine Wp.iff ?_ ?_); ((with_reducible apply beq_f); omega)) | (with_reducible refine Wp.go1 (by assumption) ?_))
    exact Wp.callP hr ⟨rfl, _, M2.at0.1, M2.tch⟩
   ·have h93 : ((c : Int) == 93) = true := beq_t (by omega)
    repeat (first | (with_reducible first | refine Wp.join0 (fun _ _ => ?_) | refine Wp.join1 (fun _ _ => ?_)) | (with_reducible refine Wp.lett ?_) | ((with_reducible apply Wp.obind); (with_reducible exact avInt_int _ _)) | ((with_reducible refine Wp.ift ?_ ?_); (with_reducible assumption)) | ((with_reducible refine Wp.iff ?_ ?_); ((with_reducible apply beq_f); omega)) | (with_reducible refine Wp.go1 (by assumption) ?_))
    exact Wp.callP hr ⟨rfl, _, M2.at0.1, M2.tch⟩
  ·refine ⟨_, .one hc hbad ⟨h40, h46, h91, h92⟩, ⟨by omega, by omega⟩, ?_⟩
   intro n D b h hD hn hn2 k0 hb hx
   obtain ⟨D, rfl⟩ : ∃ D', D = D' + 6 := ⟨D - 6, by omega⟩
   refine StepN.ok_of ?_
   rw [w_pattern_reader_atom]
   unfold pattern_reader_atom
   have Mx := Mem.one k0 hb
   repeat (first | ((with_reducible apply Wp.mnew Mx); intro _ Mz; clear Mx; have Mx := Mz; clear Mz) | rw [newP_eq])
   have M1 := Mx.swap
   have hs := next_r (n := n) (d := D + 3) M1.at0.1 M1.at0.2.1 hi hu
   rw [hc] at hs
   refine Wp.rdK hs M1 fun h1 M2 => ?_
   unfold badAtom at hbad
   have h93 : ((c : Int) == 93) = false := beq_f (by omega)
   repeat (first | (with_reducible first | refine Wp.join0 (fun _ _ => ?_) | refine Wp.join1 (fun _ _ => ?_)) | (with_reducible refine Wp.lett ?_) | ((with_reducible apply Wp.obind); (with_reducible first | exact avInt_int _ _ | exact avAgg_agg _)) | ((with_reducible refine Wp.iff ?_ ?_); first | (with_reducible assumption) | ((with_reducible apply beq_f); omega)) | ((with_reducible apply Wp.callN); (with_reducible exact oneByte_w (d := D + 3) hn h256)) | (with_reducible first | refine Wp.go0 (by assumption) ?_ | refine Wp.go1 (by assumption) ?_))
   exact fin_node M2 rfl (NodeT.leaf 2 (spanW_ok 1 zeroW_ok c))
end
section
variable {n d b p q i : Nat} {h h0 : AHeap} {u : Bytes} {Q : ARes → AHeap → Prop} {S : List Nat} {xs rs T : List RowT} {w : List Nat} {x : R} {t : Nd} {c : List AV} {v : AV}
theorem grow_one (c : List AV) (q : Nat) (hl : c.length = 6) (h1 : c.all AV.one = true) : GrowT TNode 6 [c] (.sl q 0 1 6) [(q, TNode, c)] := by
 refine ⟨fun r hr => ?_, .inr ⟨by simp, q, rfl, by simp⟩⟩
 rw [List.mem_singleton] at hr
 subst hr
 exact ⟨hl, h1⟩
theorem signed (kt : NodeT t c T) (op q : Nat) : NodeT (overN op [t]) (nodeC op zeroW (.sl q 0 1 6)) ([(q, TNode, c)] ++ (T ++ [])) :=
 NodeT.mk zeroW_ok (grow_one c q kt.len kt.one) (KidsT.cons kt .nil)
theorem signAt_some {c : Nat} (h : at? u i = some c) : signAt u i = signOp c := by
 unfold signAt
 rw [h]
theorem signAt_none (h42 : at? u i ≠ some 42) (h43 : at? u i ≠ some 43) (h63 : at? u i ≠ some 63) : signAt u i = 0 := by
 unfold signAt
 cases hc : at? u i with
 | none => rfl
 | some c =>
  show signOp c = 0
  rw [hc] at h42 h43 h63
  unfold signOp
  split
  ·exact absurd rfl h42
  ·exact absurd rfl h43
  ·exact absurd rfl h63
  ·rfl
theorem fin_sign {r0 n1 : Nat} {l : List AV} {D op : Nat} (M : Mem S h0 h ((b, TRd, rdP u p) :: (n1, TNode, c) :: (r0, TNode, l) :: T)) (hl : l.length = 6) (kt : NodeT t c T) (hex : memB TNode h0.ex = false) :
  Wp (obind (ldRow h 6 (.ptr n1 0)) fun t9 => outK (bldSl Try.prog h TNodes 1 [(0, .agg t9)]) fun v10 h20 => callN (world n (D + 1) 76 [.int .i64 (op : Int), v10] h20) fun r11 h22 => obind (avAgg r11) fun t11 => obind (stRow h22 6 t11 (.ptr r0 0)) fun h25 => obind (ldRow h25 6 (.ptr r0 0)) fun w => some (.ret (.agg w), h25)) fun r h' => ∃ c T, r = .ret (.agg c) ∧ NodeT (overN op [t]) c T ∧ Mem S h0 h' ((b, TRd, rdP u p) :: T) := by
 refine Wp.lr1 M kt.len ?_
 refine Wp.mnews M (kt.bld h) kt.one hex fun h1 M1 => ?_
 have g := grow_one c h.next kt.len kt.one
 obtain ⟨h2, e2, t2⟩ := over_r (n := n) (d := D) (h := h1) g op
 refine Wp.callN e2 ?_
 have M2 := M1.keep t2
 refine Wp.obind (avAgg_agg _) ?_
 have M3 : Mem S h0 h2 ((b, TRd, rdP u p) :: (r0, TNode, l) :: ([(h.next, TNode, c)] ++ (T ++ []))) := by
  rw [List.append_nil]
  have M4 := M2.perm (ys := [(n1, TNode, c)] ++ ((b, TRd, rdP u p) :: (r0, TNode, l) :: ([(h.next, TNode, c)] ++ T))) (by
   refine List.Perm.trans ?_ (List.perm_append_comm (l₁ := (b, TRd, rdP u p) :: (n1, TNode, c) :: (r0, TNode, l) :: T) (l₂ := [(h.next, TNode, c)]))
   refine (List.Perm.swap _ _ _).trans ?_
   refine List.Perm.cons _ (List.Perm.cons _ (List.Perm.cons _ ?_))
   exact List.perm_append_comm)
  exact Mem.drop M4
 exact fin_node M3 hl (signed kt op h.next)
theorem part_ok (hu : u.length ≤ 1000000) {m : Nat} (ih : AtomOk u m) : PartOk u m := by
 intro i hi hm
 obtain ⟨r, r1, r2, r3⟩ := ih i hi hm
 cases r with
 | error q =>
  refine ⟨_, .bad r1, r2, ?_⟩
  intro n D b h hD hn hn2 k0 hb hx
  obtain ⟨D, rfl⟩ : ∃ D', D = D' + 7 := ⟨D - 7, by omega⟩
  refine StepN.err_of ?_
  rw [w_pattern_reader_regularPart]
  unfold pattern_reader_regularPart
  have Mx := Mem.one k0 hb
  repeat (first | ((with_reducible apply Wp.mnew Mx); intro _ Mz; clear Mx; have Mx := Mz; clear Mz) | rw [newP_eq])
  have M1 := Mx.swap
  have hs := r3 (n := n) (D := D + 6) (by omega) hn hn2 M1.at0.1 M1.at0.2.1 (by rw [M1.ex]; exact hx)
  exact Wp.nodeE hs M1 fun h' p k1 t1 => ⟨rfl, p, k1, t1⟩
 | ok tj =>
  obtain ⟨t, j⟩ := tj
  obtain ⟨b1, b2⟩ := r2
  by_cases h42 : at? u j = some 42
  ·have hsg : signAt u j = 5 := signAt_some h42
   obtain ⟨hj, _⟩ := at?_some h42
   have rp := PartP.sign r1 (by rw [hsg]; decide)
   rw [hsg] at rp
   refine ⟨_, rp, ⟨by omega, by omega⟩, ?_⟩
   intro n D b h hD hn hn2 k0 hb hx
   obtain ⟨D, rfl⟩ : ∃ D', D = D' + 7 := ⟨D - 7, by omega⟩
   refine StepN.ok_of ?_
   rw [w_pattern_reader_regularPart]
   unfold pattern_reader_regularPart
   have Mx := Mem.one k0 hb
   repeat (first | ((with_reducible apply Wp.mnew Mx); intro _ Mz; clear Mx; have Mx := Mz; clear Mz) | rw [newP_eq])
   have M1 := Mx.swap
   have hs := r3 (n := n) (D := D + 6) (by omega) hn hn2 M1.at0.1 M1.at0.2.1 (by rw [M1.ex]; exact hx)
   refine Wp.nodeK hs M1 fun c T h2 kt M3 => ?_
   (((with_reducible apply Wp.obind); (with_reducible exact avAgg_agg _)))
   refine Wp.mnew M3 fun h3 M4 => ?_
   rw [newP_eq]
   refine Wp.sa0 M4 kt.len rfl kt.one fun h4 M5 => ?_
   have M6 := M5.swap
   have hs1 := skips_r (n := n) (d := D + 3) M6.at0.1 M6.at0.2.1 b2 hu 42
   rw [if_pos h42, decide_eq_true h42] at hs1
   refine Wp.rdN hs1 M6 fun h5 M7 => ?_
   repeat (first | ((with_reducible apply Wp.obind); (with_reducible exact avBool_bool _)) | ((with_reducible refine Wp.ift ?_ ?_); (with_reducible rfl)))
   exact fin_sign (D := D + 5) (op := 5) M7 rfl kt hx
  by_cases h43 : at? u j = some 43
  ·have hsg : signAt u j = 6 := signAt_some h43
   obtain ⟨hj, _⟩ := at?_some h43
   have rp := PartP.sign r1 (by rw [hsg]; decide)
   rw [hsg] at rp
   refine ⟨_, rp, ⟨by omega, by omega⟩, ?_⟩
   intro n D b h hD hn hn2 k0 hb hx
   obtain ⟨D, rfl⟩ : ∃ D', D = D' + 7 := ⟨D - 7, by omega⟩
   refine StepN.ok_of ?_
   rw [w_pattern_reader_regularPart]
   unfold pattern_reader_regularPart
   have Mx := Mem.one k0 hb
   repeat (first | ((with_reducible apply Wp.mnew Mx); intro _ Mz; clear Mx; have Mx := Mz; clear Mz) | rw [newP_eq])
   have M1 := Mx.swap
   have hs := r3 (n := n) (D := D + 6) (by omega) hn hn2 M1.at0.1 M1.at0.2.1 (by rw [M1.ex]; exact hx)
   refine Wp.nodeK hs M1 fun c T h2 kt M3 => ?_
   (((with_reducible apply Wp.obind); (with_reducible exact avAgg_agg _)))
   refine Wp.mnew M3 fun h3 M4 => ?_
   rw [newP_eq]
   refine Wp.sa0 M4 kt.len rfl kt.one fun h4 M5 => ?_
   have M6 := M5.swap
   have hs1 := skips_r (n := n) (d := D + 3) M6.at0.1 M6.at0.2.1 b2 hu 42
   rw [if_neg h42, decide_eq_false h42] at hs1
   refine Wp.rdN hs1 M6 fun h5 M7 => ?_
   have hs2 := skips_r (n := n) (d := D + 3) M7.at0.1 M7.at0.2.1 b2 hu 43
   rw [if_pos h43, decide_eq_true h43] at hs2
   repeat (first | ((with_reducible apply Wp.obind); (with_reducible exact avBool_bool _)) | ((with_reducible refine Wp.iff ?_ ?_); (with_reducible rfl)))
   refine Wp.rdN hs2 M7 fun h6 M8 => ?_
   repeat (first | ((with_reducible apply Wp.obind); (with_reducible exact avBool_bool _)) | ((with_reducible refine Wp.ift ?_ ?_); (with_reducible rfl)))
   exact fin_sign (D := D + 5) (op := 6) M8 rfl kt hx
  by_cases h63 : at? u j = some 63
  ·have hsg : signAt u j = 7 := signAt_some h63
   obtain ⟨hj, _⟩ := at?_some h63
   have rp := PartP.sign r1 (by rw [hsg]; decide)
   rw [hsg] at rp
   refine ⟨_, rp, ⟨by omega, by omega⟩, ?_⟩
   intro n D b h hD hn hn2 k0 hb hx
   obtain ⟨D, rfl⟩ : ∃ D', D = D' + 7 := ⟨D - 7, by omega⟩
   refine StepN.ok_of ?_
   rw [w_pattern_reader_regularPart]
   unfold pattern_reader_regularPart
   have Mx := Mem.one k0 hb
   repeat (first | ((with_reducible apply Wp.mnew Mx); intro _ Mz; clear Mx; have Mx := Mz; clear Mz) | rw [newP_eq])
   have M1 := Mx.swap
   have hs := r3 (n := n) (D := D + 6) (by omega) hn hn2 M1.at0.1 M1.at0.2.1 (by rw [M1.ex]; exact hx)
   refine Wp.nodeK hs M1 fun c T h2 kt M3 => ?_
   (((with_reducible apply Wp.obind); (with_reducible exact avAgg_agg _)))
   refine Wp.mnew M3 fun h3 M4 => ?_
   rw [newP_eq]
   refine Wp.sa0 M4 kt.len rfl kt.one fun h4 M5 => ?_
   have M6 := M5.swap
   have hs1 := skips_r (n := n) (d := D + 3) M6.at0.1 M6.at0.2.1 b2 hu 42
   rw [if_neg h42, decide_eq_false h42] at hs1
   refine Wp.rdN hs1 M6 fun h5 M7 => ?_
   have hs2 := skips_r (n := n) (d := D + 3) M7.at0.1 M7.at0.2.1 b2 hu 43
   rw [if_neg h43, decide_eq_false h43] at hs2
   repeat (first | ((with_reducible apply Wp.obind); (with_reducible exact avBool_bool _)) | ((with_reducible refine Wp.iff ?_ ?_); (with_reducible rfl)))
   refine Wp.rdN hs2 M7 fun h6 M8 => ?_
   have hs3 := skips_r (n := n) (d := D + 3) M8.at0.1 M8.at0.2.1 b2 hu 63
   rw [if_pos h63, decide_eq_true h63] at hs3
   repeat (first | ((with_reducible apply Wp.obind); (with_reducible exact avBool_bool _)) | ((with_reducible refine Wp.iff ?_ ?_); (with_reducible rfl)))
   refine Wp.rdN hs3 M8 fun h7 M9 => ?_
   repeat (first | ((with_reducible apply Wp.obind); (with_reducible exact avBool_bool _)) | ((with_reducible refine Wp.ift ?_ ?_); (with_reducible rfl)))
   exact fin_sign (D := D + 5) (op := 7) M9 rfl kt hx
  ·have hsg := signAt_none h42 h43 h63
   refine ⟨_, .bare r1 hsg, ⟨b1, b2⟩, ?_⟩
   intro n D b h hD hn hn2 k0 hb hx
   obtain ⟨D, rfl⟩ : ∃ D', D = D' + 7 := ⟨D - 7, by omega⟩
   refine StepN.ok_of ?_
   rw [w_pattern_reader_regularPart]
   unfold pattern_reader_regularPart
   have Mx := Mem.one k0 hb
   repeat (first | ((with_reducible apply Wp.mnew Mx); intro _ Mz; clear Mx; have Mx := Mz; clear Mz) | rw [newP_eq])
   have M1 := Mx.swap
   have hs := r3 (n := n) (D := D + 6) (by omega) hn hn2 M1.at0.1 M1.at0.2.1 (by rw [M1.ex]; exact hx)
   refine Wp.nodeK hs M1 fun c T h2 kt M3 => ?_
   (((with_reducible apply Wp.obind); (with_reducible exact avAgg_agg _)))
   refine Wp.mnew M3 fun h3 M4 => ?_
   rw [newP_eq]
   refine Wp.sa0 M4 kt.len rfl kt.one fun h4 M5 => ?_
   have M6 := M5.swap
   have hs1 := skips_r (n := n) (d := D + 3) M6.at0.1 M6.at0.2.1 b2 hu 42
   rw [if_neg h42, decide_eq_false h42] at hs1
   refine Wp.rdN hs1 M6 fun h5 M7 => ?_
   have hs2 := skips_r (n := n) (d := D + 3) M7.at0.1 M7.at0.2.1 b2 hu 43
   rw [if_neg h43, decide_eq_false h43] at hs2
   repeat (first | ((with_reducible apply Wp.obind); (with_reducible exact avBool_bool _)) | ((with_reducible refine Wp.iff ?_ ?_); (with_reducible rfl)))
   refine Wp.rdN hs2 M7 fun h6 M8 => ?_
   have hs3 := skips_r (n := n) (d := D + 3) M8.at0.1 M8.at0.2.1 b2 hu 63
   rw [if_neg h63, decide_eq_false h63] at hs3
   repeat (first | ((with_reducible apply Wp.obind); (with_reducible exact avBool_bool _)) | ((with_reducible refine Wp.iff ?_ ?_); (with_reducible rfl)))
   refine Wp.rdN hs3 M8 fun h7 M9 => ?_
   repeat (first | ((with_reducible apply Wp.obind); (with_reducible exact avBool_bool _)) | ((with_reducible refine Wp.iff ?_ ?_); (with_reducible rfl)))
   refine Wp.lr1 M9 kt.len ?_
   exact fin_node (mem_mid (xs := [_]) (T0 := [_]) M9) rfl kt
end
section
variable {n d b p q i m : Nat} {h h0 : AHeap} {u : Bytes} {Q : ARes → AHeap → Prop} {S : List Nat} {xs rs T T0 T1 : List RowT} {w : List Nat} {x : R} {t : Nd} {c : List AV} {v kv : AV} {l : List Nd} {kc : List (List AV)}
theorem StepN.of_main {r : Res} (main : ∀ Q : ARes → AHeap → Prop, (∀ t j c T H', r = .ok (t, j) → NodeT t c T → Mem [b] h H' ((b, TRd, rdP u j) :: T) → Q (.ret (.agg c)) H') → (∀ e p H', r = .error e → Rd H' b u p → Tch [b] h H' → Q (.panic (PanA 6 e)) H') → Wp x Q) : StepN b u h x r := by
 cases r with
 | error e => exact StepN.err_of (main _ (fun t j c T H' hh => by cases hh) fun e' p H' hh k5 t5 => by cases hh; exact ⟨rfl, p, k5, t5⟩)
 | ok tj =>
  obtain ⟨t, j⟩ := tj
  exact StepN.ok_of (main _ (fun t' j' c T H' hh k5 t5 => by cases hh; exact ⟨c, T, rfl, k5, t5⟩) fun e' p H' hh => by cases hh)
theorem Wp.nodeGrow {K : AV → AHeap → R} {y z : RowT} (M : Mem S h0 h (y :: ((z :: (T0 ++ T1)) ++ T))) (g : GrowT TNode 6 kc kv T0) (ks : KidsT l kc T1) (kt : NodeT t c T) (hex : memB TNode h0.ex = false) (hl : l.length ≤ 1000001)
  (hk : ∀ kv' h' T0', GrowT TNode 6 (kc ++ [c]) kv' T0' → KidsT (l ++ [t]) (kc ++ [c]) (T1 ++ T) → Mem S h0 h' (y :: z :: (T0' ++ (T1 ++ T))) → Wp (K kv' h') Q) :
  Wp (outK (bldSl Try.prog h TNodes 1 [(0, .agg c)]) fun v12 h29 => outK (opAppend Try.prog h29 TNodes TNodes kv v12) fun v13 h31 => K v13 h31) Q := by
 refine Wp.mnews M (kt.bld h) kt.one hex fun h1 M1 => ?_
 have M2 : Mem S h0 h1 ((h.next, TNode, c) :: (y :: z :: (T1 ++ T)) ++ T0) := M1.perm (by
  refine List.Perm.cons _ (List.Perm.cons _ (List.Perm.cons _ ?_))
  show ((T1 ++ T) ++ T0).Perm ((T0 ++ T1) ++ T)
  rw [List.append_assoc T0]
  exact List.perm_append_comm)
 have hkl := ks.len
 refine Wp.grow M2 g (by kernel_rfl) (by kernel_rfl) (by kernel_rfl) (B := 64) (by kernel_rfl) hex kt.len kt.one (by omega) (by omega) fun kv' h' T0' g' M3 => ?_
 refine hk kv' h' T0' g' (KidsT.snoc kt ks) (M3.perm ?_)
 exact List.Perm.cons _ (List.Perm.cons _ List.perm_append_comm)
theorem at?_none (h : at? u i = none) (hi : i ≤ u.length) : i = u.length := by
 by_cases hp : i < u.length
 ·rw [at?_lt hp] at h
  cases h
 ·omega
theorem row_loop (hu : u.length ≤ 1000000) (ih : PartOk u m) : ∀ (k i : Nat) (l : List Nd), i ≤ u.length → u.length - i ≤ m → u.length - i < k → l.length ≤ i → ∃ r, RowP u l i r ∧ Bnd u i r ∧
   ∀ {n D f b r0 : Nat} {S : List Nat} {h0 H : AHeap} {kc : List (List AV)} {kv : AV} {T0 T1 : List RowT} {z : List AV} {k7 : AV → AHeap → R} {Q : ARes → AHeap → Prop}, 4 * m + 7 ≤ D → 300 < n → u.length + 5 < n → u.length - i < f → GrowT TNode 6 kc kv T0 → KidsT l kc T1 → memB TNode h0.ex = false →
    Mem S h0 H ((b, TRd, rdP u i) :: (r0, TNode, z) :: (T0 ++ T1)) →
    (∀ l' j kc kv T0 T1 H', r = .ok (joinN 3 l', j) → GrowT TNode 6 kc kv T0 → KidsT l' kc T1 → Mem S h0 H' ((b, TRd, rdP u j) :: (r0, TNode, z) :: (T0 ++ T1)) → Wp (k7 kv H') Q) →
    (∀ e p H', r = .error e → Rd H' b u p → Tch S h0 H' → Q (.panic (PanA 6 e)) H') →
    Wp (pattern_reader_regularRow_L0 (world n D) (.ptr b 0) k7 f kv H) Q
 | 0, _, _, _, _, hk, _ => by omega
 | k + 1, i, l, hi, hm, hk, hli => by
  by_cases hst : stops u i
  ·refine ⟨_, .stop hst, ⟨Nat.le_refl _, hi⟩, ?_⟩
   intro n D f b r0 S h0 H kc kv T0 T1 z k7 Q hD hn hn2 hf g ks hex M hok hbad
   obtain ⟨D, rfl⟩ : ∃ D', D = D' + 7 := ⟨D - 7, by omega⟩
   cases f with
   | zero => omega
   | succ f =>
    have he := ended_r (n := n) (d := D + 6) M.at0.1
    have h1 : world n (D + 7) 68 [.ptr b 0, .int .u8 124] H = some (.ret (.bool (decide (at? u i = some 124))), H) := sees_r (n := n) (d := D + 5) M.at0.1 hi 124
    have h2 : world n (D + 7) 68 [.ptr b 0, .int .u8 41] H = some (.ret (.bool (decide (at? u i = some 41))), H) := sees_r (n := n) (d := D + 5) M.at0.1 hi 41
    have hfin := hok l i kc kv T0 T1 H rfl g ks M
    rw [pattern_reader_regularRow_L0_s]
    unfold pattern_reader_regularRow_L0b
    rcases hst with hc | hc | hc
    ·have := at?_none hc hi
     rw [decide_eq_true this] at he
     repeat (first | (with_reducible refine Wp.join1 (fun _ _ => ?_)) | (with_reducible refine Wp.lett ?_) | ((with_reducible apply Wp.obind); (with_reducible exact avBool_bool _)) | ((with_reducible refine Wp.iff ?_ ?_); (with_reducible first | rfl | exact Bool.not_true)) | ((with_reducible apply Wp.callN); (with_reducible assumption)) | (with_reducible refine Wp.go1 (by assumption) ?_))
     exact hfin
    ·obtain ⟨hp, _⟩ := at?_some hc
     rw [decide_eq_false (by omega)] at he
     rw [decide_eq_true hc] at h1
     repeat (first | (with_reducible refine Wp.join1 (fun _ _ => ?_)) | (with_reducible refine Wp.lett ?_) | ((with_reducible apply Wp.obind); (with_reducible exact avBool_bool _)) | ((with_reducible refine Wp.ift ?_ ?_); (with_reducible exact Bool.not_false)) | ((with_reducible refine Wp.iff ?_ ?_); (with_reducible first | rfl | exact Bool.not_true)) | ((with_reducible apply Wp.callN); (with_reducible assumption)) | (with_reducible refine Wp.go1 (by assumption) ?_))
     exact hfin
    ·obtain ⟨hp, _⟩ := at?_some hc
     rw [decide_eq_false (by omega)] at he
     rw [decide_eq_false (by rw [hc]; decide)] at h1
     rw [decide_eq_true hc] at h2
     repeat (first | (with_reducible refine Wp.join1 (fun _ _ => ?_)) | (with_reducible refine Wp.lett ?_) | ((with_reducible apply Wp.obind); (with_reducible exact avBool_bool _)) | ((with_reducible refine Wp.ift ?_ ?_); (with_reducible exact Bool.not_false)) | ((with_reducible refine Wp.iff ?_ ?_); (with_reducible exact Bool.not_true)) | ((with_reducible apply Wp.callN); (with_reducible assumption)) | (with_reducible refine Wp.go1 (by assumption) ?_))
     exact hfin
  ·have hlt : i < u.length := by
    rcases Nat.lt_or_ge i u.length with h | h
    ·exact h
    ·exact absurd (.inl (at?_ge h)) hst
   have n1 : at? u i ≠ some 124 := fun hh => hst (.inr (.inl hh))
   have n2 : at? u i ≠ some 41 := fun hh => hst (.inr (.inr hh))
   obtain ⟨r, r1, r2, r3⟩ := ih i hi hm
   cases r with
   | error e =>
    refine ⟨_, .bad hst r1, r2, ?_⟩
    intro n D f b r0 S h0 H kc kv T0 T1 z k7 Q hD hn hn2 hf g ks hex M hok hbad
    obtain ⟨D, rfl⟩ : ∃ D', D = D' + 7 := ⟨D - 7, by omega⟩
    cases f with
    | zero => omega
    | succ f =>
     have he := ended_r (n := n) (d := D + 6) M.at0.1
     have h1 : world n (D + 7) 68 [.ptr b 0, .int .u8 124] H = some (.ret (.bool (decide (at? u i = some 124))), H) := sees_r (n := n) (d := D + 5) M.at0.1 hi 124
     have h2 : world n (D + 7) 68 [.ptr b 0, .int .u8 41] H = some (.ret (.bool (decide (at? u i = some 41))), H) := sees_r (n := n) (d := D + 5) M.at0.1 hi 41
     rw [decide_eq_false (by omega)] at he
     rw [decide_eq_false n1] at h1
     rw [decide_eq_false n2] at h2
     have hs := r3 (n := n) (D := D + 7) (by omega) hn hn2 M.at0.1 M.at0.2.1 (by rw [M.ex]; exact hex)
     rw [pattern_reader_regularRow_L0_s]
     unfold pattern_reader_regularRow_L0b
     repeat (first | (with_reducible refine Wp.join1 (fun _ _ => ?_)) | (with_reducible refine Wp.lett ?_) | ((with_reducible apply Wp.obind); (with_reducible exact avBool_bool _)) | ((with_reducible refine Wp.ift ?_ ?_); (with_reducible exact Bool.not_false)) | ((with_reducible first | apply Wp.callN | apply Wp.callK); (with_reducible assumption)) | (with_reducible refine Wp.go1 (by assumption) ?_))
     exact Wp.nodeE hs M fun h' p k1 t1 => hbad e p h' rfl k1 t1
   | ok tj =>
    obtain ⟨t, j⟩ := tj
    obtain ⟨b1, b2⟩ := r2
    obtain ⟨r, q1, q2, q3⟩ := row_loop hu ih k j (l ++ [t]) b2 (by omega) (by omega) (by simp; omega)
    refine ⟨r, .more hst r1 q1, ?_, ?_⟩
    ·cases r with
     | error e => exact q2
     | ok tj2 =>
      obtain ⟨a1, a2⟩ := q2
      exact ⟨by omega, a2⟩
    ·intro n D f b r0 S h0 H kc kv T0 T1 z k7 Q hD hn hn2 hf g ks hex M hok hbad
     obtain ⟨D, rfl⟩ : ∃ D', D = D' + 7 := ⟨D - 7, by omega⟩
     cases f with
     | zero => omega
     | succ f =>
      have he := ended_r (n := n) (d := D + 6) M.at0.1
      have h1 : world n (D + 7) 68 [.ptr b 0, .int .u8 124] H = some (.ret (.bool (decide (at? u i = some 124))), H) := sees_r (n := n) (d := D + 5) M.at0.1 hi 124
      have h2 : world n (D + 7) 68 [.ptr b 0, .int .u8 41] H = some (.ret (.bool (decide (at? u i = some 41))), H) := sees_r (n := n) (d := D + 5) M.at0.1 hi 41
      rw [decide_eq_false (by omega)] at he
      rw [decide_eq_false n1] at h1
      rw [decide_eq_false n2] at h2
      have hs := r3 (n := n) (D := D + 7) (by omega) hn hn2 M.at0.1 M.at0.2.1 (by rw [M.ex]; exact hex)
      rw [pattern_reader_regularRow_L0_s]
      unfold pattern_reader_regularRow_L0b
      repeat (first | (with_reducible refine Wp.join1 (fun _ _ => ?_)) | (with_reducible refine Wp.lett ?_) | ((with_reducible apply Wp.obind); (with_reducible exact avBool_bool _)) | ((with_reducible refine Wp.ift ?_ ?_); (with_reducible exact Bool.not_false)) | ((with_reducible first | apply Wp.callN | apply Wp.callK); (with_reducible assumption)) | (with_reducible refine Wp.go1 (by assumption) ?_))
      refine Wp.nodeK hs M fun c T h2 kt M3 => ?_
      (((with_reducible apply Wp.obind); (with_reducible exact avAgg_agg _)))
      refine Wp.nodeGrow M3 g ks kt hex (by omega) fun kv' h' T0' g' ks' M4 => ?_
      exact q3 hD hn hn2 (by omega) g' ks' hex M4 hok hbad
theorem row_ok (hu : u.length ≤ 1000000) (ih : PartOk u m) : RowOk u m := by
 intro i hi hm
 obtain ⟨r, r1, r2, r3⟩ := row_loop hu ih (u.length + 1) i [] hi hm (by omega) (Nat.zero_le _)
 refine ⟨r, r1, r2, ?_⟩
 intro n D b h hD hn hn2 k0 hb hx
 obtain ⟨D, rfl⟩ : ∃ D', D = D' + 8 := ⟨D - 8, by omega⟩
 refine StepN.of_main fun Q q1 q2 => ?_
 rw [w_pattern_reader_regularRow]
 unfold pattern_reader_regularRow
 refine Wp.mnew (Mem.one k0 hb) fun h1 Mx => ?_
 rw [newP_eq]
 have M1 := Mx.swap
 ((with_reducible refine Wp.join1 (fun _ _ => ?_)))
 rename_i k7 ek7
 refine r3 (r0 := h.next) (by omega) hn hn2 (by omega) (GrowT.nil _ _) .nil hx M1 ?_ q2
 intro l' j kc kv T0 T1 H' hr g ks M2
 refine Wp.go1 ek7 ?_
 obtain ⟨c, T, h2, e2, kt, M3⟩ := inRow_r (n := n) (d := D + 5) (xs := [_, _]) M2 g ks
 repeat (first | ((with_reducible apply Wp.obind); (with_reducible exact avAgg_agg _)) | ((with_reducible apply Wp.callN); (with_reducible assumption)))
 refine (fin_node M3 rfl kt).mono ?_
 rintro _ h3 ⟨c3, T3, rfl, kt3, M4⟩
 exact q1 _ _ _ _ _ hr kt3 M4
end
section
variable {n d b p q i m : Nat} {h h0 : AHeap} {u : Bytes} {Q : ARes → AHeap → Prop} {S : List Nat} {xs rs T T0 T1 : List RowT} {w : List Nat} {x : R} {t : Nd} {c : List AV} {v kv : AV} {l : List Nd} {kc : List (List AV)}
theorem alt_loop (hu : u.length ≤ 1000000) (ih : RowOk u m) : ∀ (k j : Nat) (l : List Nd), j ≤ u.length → u.length - j ≤ m → u.length - j < k → l.length ≤ j + 1 → l ≠ [] → ∃ r, (at? u j = some 124 → AltP u l (j + 1) r) ∧ (at? u j ≠ some 124 → r = .ok (joinN 4 l, j)) ∧ Bnd u j r ∧
   ∀ {n D f b r0 : Nat} {S : List Nat} {h0 H : AHeap} {kc : List (List AV)} {kv : AV} {T0 T1 : List RowT} {z : List AV} {k12 : AV → AHeap → R} {Q : ARes → AHeap → Prop}, 4 * m + 8 ≤ D → 300 < n → u.length + 5 < n → u.length - j < f → GrowT TNode 6 kc kv T0 → KidsT l kc T1 → memB TNode h0.ex = false →
    Mem S h0 H ((b, TRd, rdP u j) :: (r0, TNode, z) :: (T0 ++ T1)) →
    (∀ l' j kc kv T0 T1 H', l' ≠ [] → r = .ok (joinN 4 l', j) → GrowT TNode 6 kc kv T0 → KidsT l' kc T1 → Mem S h0 H' ((b, TRd, rdP u j) :: (r0, TNode, z) :: (T0 ++ T1)) → Wp (k12 kv H') Q) →
    (∀ e p H', r = .error e → Rd H' b u p → Tch S h0 H' → Q (.panic (PanA 6 e)) H') →
    Wp (pattern_reader_alternatives_L0 (world n D) (.ptr b 0) k12 f kv H) Q
 | 0, _, _, _, _, hk, _, _ => by omega
 | k + 1, j, l, hi, hm, hk, hli, hne => by
  by_cases hst : at? u j = some 124
  ·obtain ⟨hp, _⟩ := at?_some hst
   obtain ⟨r, r1, r2, r3⟩ := ih (j + 1) (by omega) (by omega)
   cases r with
   | error e =>
    refine ⟨.error e, fun _ => .bad r1, fun hh => absurd hst hh, r2, ?_⟩
    intro n D f b r0 S h0 H kc kv T0 T1 z k12 Q hD hn hn2 hf g ks hex M hok hbad
    obtain ⟨D, rfl⟩ : ∃ D', D = D' + 8 := ⟨D - 8, by omega⟩
    cases f with
    | zero => omega
    | succ f =>
     rw [pattern_reader_alternatives_L0_s]
     unfold pattern_reader_alternatives_L0b
     have hs1 := skips_r (n := n) (d := D + 5) M.at0.1 M.at0.2.1 hi hu 124
     rw [if_pos hst, decide_eq_true hst] at hs1
     refine Wp.rdN hs1 M fun h1 M1 => ?_
     have hs := r3 (n := n) (D := D + 8) (by omega) hn hn2 M1.at0.1 M1.at0.2.1 (by rw [M1.ex]; exact hex)
     repeat (first | ((with_reducible apply Wp.obind); (with_reducible exact avBool_bool _)) | ((with_reducible refine Wp.ift ?_ ?_); (with_reducible rfl)))
     exact Wp.nodeE hs M1 fun h' p k1 t1 => hbad e p h' rfl k1 t1
   | ok tj =>
    obtain ⟨t, j2⟩ := tj
    obtain ⟨b1, b2⟩ := r2
    obtain ⟨r, q1, q2, q3, q4⟩ := alt_loop hu ih k j2 (l ++ [t]) b2 (by omega) (by omega) (by simp; omega) (by simp)
    refine ⟨r, fun _ => ?_, fun hh => absurd hst hh, ?_, ?_⟩
    ·by_cases h2 : at? u j2 = some 124
     ·exact .more r1 h2 (q1 h2)
     ·rw [q2 h2]
      exact .last r1 h2
    ·cases r with
     | error e => exact q3
     | ok tj2 =>
      obtain ⟨a1, a2⟩ := q3
      exact ⟨by omega, a2⟩
    ·intro n D f b r0 S h0 H kc kv T0 T1 z k12 Q hD hn hn2 hf g ks hex M hok hbad
     obtain ⟨D, rfl⟩ : ∃ D', D = D' + 8 := ⟨D - 8, by omega⟩
     cases f with
     | zero => omega
     | succ f =>
      rw [pattern_reader_alternatives_L0_s]
      unfold pattern_reader_alternatives_L0b
      have hs1 := skips_r (n := n) (d := D + 5) M.at0.1 M.at0.2.1 hi hu 124
      rw [if_pos hst, decide_eq_true hst] at hs1
      refine Wp.rdN hs1 M fun h1 M1 => ?_
      have hs := r3 (n := n) (D := D + 8) (by omega) hn hn2 M1.at0.1 M1.at0.2.1 (by rw [M1.ex]; exact hex)
      repeat (first | ((with_reducible apply Wp.obind); (with_reducible exact avBool_bool _)) | ((with_reducible refine Wp.ift ?_ ?_); (with_reducible rfl)))
      refine Wp.nodeK hs M1 fun c T h2 kt M3 => ?_
      (((with_reducible apply Wp.obind); (with_reducible exact avAgg_agg _)))
      refine Wp.nodeGrow M3 g ks kt hex (by omega) fun kv' h' T0' g' ks' M4 => ?_
      exact q4 hD hn hn2 (by omega) g' ks' hex M4 hok hbad
  ·refine ⟨.ok (joinN 4 l, j), fun hh => absurd hh hst, fun _ => rfl, ⟨Nat.le_refl _, hi⟩, ?_⟩
   intro n D f b r0 S h0 H kc kv T0 T1 z k12 Q hD hn hn2 hf g ks hex M hok hbad
   obtain ⟨D, rfl⟩ : ∃ D', D = D' + 8 := ⟨D - 8, by omega⟩
   cases f with
   | zero => omega
   | succ f =>
    rw [pattern_reader_alternatives_L0_s]
    unfold pattern_reader_alternatives_L0b
    have hs1 := skips_r (n := n) (d := D + 5) M.at0.1 M.at0.2.1 hi hu 124
    rw [if_neg hst, decide_eq_false hst] at hs1
    refine Wp.rdN hs1 M fun h1 M1 => ?_
    repeat (first | ((with_reducible apply Wp.obind); (with_reducible exact avBool_bool _)) | ((with_reducible refine Wp.iff ?_ ?_); (with_reducible rfl)))
    exact hok l j kc kv T0 T1 h1 hne rfl g ks M1
theorem alt_ok (hu : u.length ≤ 1000000) (ih : RowOk u m) : AltOk u m := by
 intro i hi hm
 obtain ⟨r, r1, r2, r3⟩ := ih i hi hm
 cases r with
 | error e =>
  refine ⟨.error e, .bad r1, r2, ?_⟩
  intro n D b h hD hn hn2 k0 hb hx
  obtain ⟨D, rfl⟩ : ∃ D', D = D' + 9 := ⟨D - 9, by omega⟩
  refine StepN.err_of ?_
  rw [w_pattern_reader_alternatives]
  unfold pattern_reader_alternatives
  refine Wp.mnew (Mem.one k0 hb) fun h1 Mx => ?_
  have M1 := Mx.swap
  have hs := r3 (n := n) (D := D + 8) (by omega) hn hn2 M1.at0.1 M1.at0.2.1 (by rw [M1.ex]; exact hx)
  exact Wp.nodeE hs M1 fun h' p k1 t1 => ⟨rfl, p, k1, t1⟩
 | ok tj =>
  obtain ⟨t, j⟩ := tj
  obtain ⟨b1, b2⟩ := r2
  obtain ⟨r, q1, q2, q3, q4⟩ := alt_loop hu ih (u.length + 1) j [t] b2 (by omega) (by omega) (by simp) (by simp)
  refine ⟨r, ?_, ?_, ?_⟩
  ·by_cases h2 : at? u j = some 124
   ·exact .more (l := []) r1 h2 (q1 h2)
   ·rw [q2 h2]
    exact .last (l := []) r1 h2
  ·cases r with
   | error e => exact q3
   | ok tj2 =>
    obtain ⟨a1, a2⟩ := q3
    exact ⟨by omega, a2⟩
  intro n D b h hD hn hn2 k0 hb hx
  obtain ⟨D, rfl⟩ : ∃ D', D = D' + 9 := ⟨D - 9, by omega⟩
  refine StepN.of_main fun Q o1 o2 => ?_
  rw [w_pattern_reader_alternatives]
  unfold pattern_reader_alternatives
  refine Wp.mnew (Mem.one k0 hb) fun h1 Mx => ?_
  have M1 := Mx.swap
  have hs := r3 (n := n) (D := D + 8) (by omega) hn hn2 M1.at0.1 M1.at0.2.1 (by rw [M1.ex]; exact hx)
  refine Wp.nodeK hs M1 fun c T h2 kt M3 => ?_
  (((with_reducible apply Wp.obind); (with_reducible exact avAgg_agg _)))
  refine Wp.mnews M3 (kt.bld h2) kt.one hx fun h3 M4 => ?_
  ((with_reducible refine Wp.join1 (fun _ _ => ?_)))
  rename_i k12 ek12
  have M5 : Mem [b] h h3 ((b, TRd, rdP u j) :: (h.next, TNode, [.int .i64 0, .int .u64 0, .int .u64 0, .int .u64 0, .int .u64 0, .nsl]) :: ([(h2.next, TNode, c)] ++ (T ++ []))) := M4.perm (by
   rw [List.append_nil]
   exact List.perm_append_comm_assoc [_, _] [_] T)
  refine q4 (r0 := h.next) (by omega) hn hn2 (by omega) (grow_one c h2.next kt.len kt.one) (KidsT.cons kt .nil) hx M5 ?_ o2
  intro l' j' kc kv T0 T1 H' hne hr g ks M6
  refine Wp.go1 ek12 ?_
  have hlen := g.len
  have hkl := ks.len
  match l', hne, hr, ks, hkl with
  | [t'], _, hr, ks, hkl =>
   obtain ⟨c', rfl, kt'⟩ := ks.one
   obtain ⟨q, rfl, rfl⟩ := grow_single g
   have ei : idxP 6 (.sl q 0 1 6) 0 = some (.ptr q 0) := idx0 q 0
   have hl1 : lenL (.sl q 0 1 6) = some 1 := rfl
   repeat (first | (with_reducible refine Wp.lett ?_) | ((with_reducible apply Wp.obind); (with_reducible first | exact hl1 | exact ei)) | ((with_reducible refine Wp.ift ?_ ?_); ((with_reducible apply beq_t); omega)) | rw [newP_eq])
   refine Wp.obind (RowH.ldAll (Mem.at (xs := [_, _]) M6).1 kt'.len) ?_
   refine (fin_node (mem_mid (xs := [_, _]) (T0 := [_]) M6) rfl kt').mono ?_
   rintro _ h3 ⟨c3, T3, rfl, kt3, M7⟩
   exact o1 _ _ _ _ _ hr kt3 M7
  | t1 :: t2 :: ts, _, hr, ks, hkl =>
   simp only [List.length_cons] at hkl
   have hl := nodeC_len (kv := kv) (op := 4) zeroW_ok
   have ho := nodeC_one (op := 4) (w := zeroW) g.one.1
   obtain ⟨h4, e4, t4⟩ := over_r (n := n) (d := D + 7) (h := H') g 4
   have kt4 : NodeT (joinN 4 (t1 :: t2 :: ts)) (nodeC 4 zeroW kv) (T0 ++ T1) := NodeT.mk zeroW_ok g ks
   have e5 : world n (D + 8) 76 [.int .i64 4, kv] H' = some (.ret (.agg (nodeC 4 zeroW kv)), h4) := e4
   repeat (first | (with_reducible refine Wp.lett ?_) | ((with_reducible apply Wp.obind); (with_reducible first | exact hlen | exact avAgg_agg _)) | ((with_reducible refine Wp.iff ?_ ?_); ((with_reducible apply beq_f); omega)) | ((with_reducible apply Wp.callN); (with_reducible exact e5)) | rw [newP_eq])
   refine (fin_node (M6.keep t4) rfl kt4).mono ?_
   rintro _ h3 ⟨c3, T3, rfl, kt3, M7⟩
   exact o1 _ _ _ _ _ hr kt3 M7
theorem alts_ok (hu : u.length ≤ 1000000) : ∀ m, AltOk u m
 | 0 => alt_ok hu (row_ok hu (part_ok hu (atom_ok hu fun m' hm => by omega)))
 | m + 1 => alt_ok hu (row_ok hu (part_ok hu (atom_ok hu fun m' hm => by
   obtain rfl : m = m' := by omega
   exact alts_ok hu m)))
end
def partL (u : Bytes) (i : Nat) : Res := match at? u i with
 | none => .error i
 | some c => .ok (oneN c, i + 1)
def partG (u : Bytes) (i : Nat) : Res := match at? u i with
 | none => .error i
 | some c => if c = 42 then .ok (overN 5 [anyN], i + 1) else if c = 63 then .ok (anyN, i + 1) else if c = 92 then (match at? u (i + 1) with
   | none => .error (i + 1)
   | some e => .ok (oneN e, i + 2))
  else .ok (oneN c, i + 1)
inductive FlatP (F : Nat → Res) (u : Bytes) : List Nd → Nat → Res → Prop
 | stop {l : List Nd} {i : Nat} (s : u.length ≤ i) : FlatP F u l i (.ok (joinN 3 l, i))
 | bad {l : List Nd} {i q : Nat} (s : i < u.length) (h : F i = .error q) : FlatP F u l i (.error q)
 | more {l : List Nd} {i j : Nat} {t : Nd} {r : Res} (s : i < u.length) (h : F i = .ok (t, j)) (m : FlatP F u (l ++ [t]) j r) : FlatP F u l i r
def PartF (u : Bytes) (fid : Nat) (F : Nat → Res) : Prop := (∀ i, i ≤ u.length → Bnd1 u i (F i)) ∧
 ∀ {n D b i : Nat} {h : AHeap}, 4 ≤ D → 300 < n → i ≤ u.length → Rd h b u i → b < h.next → memB TNode h.ex = false → StepN b u h (world n D fid [.ptr b 0] h) (F i)
theorem dynL (call : CallF) (b : Nat) (h : AHeap) : dynC Try.prog call (AV.fn 63 [.ptr b 0] []) [] h = call 63 [.ptr b 0] h := by
 have e : callV Try.prog h [] (some (AV.fn 63 [.ptr b 0] [])) = some (.call 63 [.ptr b 0], h) := by kernel_rfl
 unfold dynC
 rw [e]
theorem dynG (call : CallF) (b : Nat) (h : AHeap) : dynC Try.prog call (AV.fn 60 [.ptr b 0] []) [] h = call 60 [.ptr b 0] h := by
 have e : callV Try.prog h [] (some (AV.fn 60 [.ptr b 0] [])) = some (.call 60 [.ptr b 0], h) := by kernel_rfl
 unfold dynC
 rw [e]
section
variable {n d b p q i m : Nat} {h h0 : AHeap} {u : Bytes} {Q : ARes → AHeap → Prop} {S : List Nat} {xs rs T T0 T1 : List RowT} {w : List Nat} {x : R} {t : Nd} {c : List AV} {v kv : AV} {l : List Nd} {kc : List (List AV)}
theorem partL_f (hu : u.length ≤ 1000000) : PartF u 63 (partL u) := by
 refine ⟨fun i hi => ?_, ?_⟩
 ·unfold partL
  cases hc : at? u i with
  | none => exact hi
  | some c =>
   obtain ⟨hp, _⟩ := at?_some hc
   exact ⟨by omega, by omega⟩
 intro n D b i h hD hn hi k0 hb hx
 obtain ⟨D, rfl⟩ : ∃ D', D = D' + 4 := ⟨D - 4, by omega⟩
 unfold partL
 cases hc : at? u i with
 | none =>
  refine StepN.err_of ?_
  rw [w_pattern_reader_literalPart]
  unfold pattern_reader_literalPart
  refine Wp.mnew (Mem.one k0 hb) fun h1 Mx => ?_
  have M1 := Mx.swap
  have hs := next_r (n := n) (d := D + 1) M1.at0.1 M1.at0.2.1 hi hu
  rw [hc] at hs
  exact Wp.rdE hs M1 fun h' p k1 t1 => ⟨rfl, p, k1, t1⟩
 | some c =>
  have h256 := at?_256 hc
  refine StepN.ok_of ?_
  rw [w_pattern_reader_literalPart]
  unfold pattern_reader_literalPart
  refine Wp.mnew (Mem.one k0 hb) fun h1 Mx => ?_
  have M1 := Mx.swap
  have hs := next_r (n := n) (d := D + 1) M1.at0.1 M1.at0.2.1 hi hu
  rw [hc] at hs
  refine Wp.rdK hs M1 fun h2 M2 => ?_
  repeat (first | ((with_reducible apply Wp.obind); (with_reducible first | exact avInt_int _ _ | exact avAgg_agg _)) | ((with_reducible apply Wp.callN); (with_reducible exact oneByte_w (d := D + 1) hn h256)) | rw [newP_eq])
  exact fin_node M2 rfl (NodeT.leaf 2 (spanW_ok 1 zeroW_ok c))
theorem partG_f (hu : u.length ≤ 1000000) : PartF u 60 (partG u) := by
 refine ⟨fun i hi => ?_, ?_⟩
 ·unfold partG
  cases hc : at? u i with
  | none => exact hi
  | some c =>
   obtain ⟨hp, _⟩ := at?_some hc
   dsimp only
   split
   ·exact ⟨by omega, by omega⟩
   ·split
    ·exact ⟨by omega, by omega⟩
    ·split
     ·cases he : at? u (i + 1) with
      | none => exact (by omega : i + 1 ≤ u.length)
      | some e =>
       obtain ⟨hp2, _⟩ := at?_some he
       exact ⟨by omega, by omega⟩
     ·exact ⟨by omega, by omega⟩
 intro n D b i h hD hn hi k0 hb hx
 obtain ⟨D, rfl⟩ : ∃ D', D = D' + 4 := ⟨D - 4, by omega⟩
 unfold partG
 cases hc : at? u i with
 | none =>
  refine StepN.err_of ?_
  rw [w_pattern_reader_globPart]
  unfold pattern_reader_globPart
  refine Wp.mnew (Mem.one k0 hb) fun h1 Mx => ?_
  have M1 := Mx.swap
  have hs := next_r (n := n) (d := D + 1) M1.at0.1 M1.at0.2.1 hi hu
  rw [hc] at hs
  exact Wp.rdE hs M1 fun h' p k1 t1 => ⟨rfl, p, k1, t1⟩
 | some c =>
  obtain ⟨hp, _⟩ := at?_some hc
  have h256 := at?_256 hc
  dsimp only
  by_cases h42 : c = 42
  ·rw [if_pos h42]
   refine StepN.ok_of ?_
   rw [w_pattern_reader_globPart]
   unfold pattern_reader_globPart
   refine Wp.mnew (Mem.one k0 hb) fun h1 Mx => ?_
   have M1 := Mx.swap
   have hs := next_r (n := n) (d := D + 1) M1.at0.1 M1.at0.2.1 hi hu
   rw [hc] at hs
   refine Wp.rdK hs M1 fun h2 M2 => ?_
   have kt : NodeT anyN (nodeC 2 anyW .nsl) [] := NodeT.leaf 2 anyW_ok
   repeat (first | (with_reducible refine Wp.lett ?_) | ((with_reducible apply Wp.obind); (with_reducible first | exact avInt_int _ _ | exact avAgg_agg _)) | ((with_reducible refine Wp.ift ?_ ?_); ((with_reducible apply beq_t); omega)) | ((with_reducible apply Wp.callN); (with_reducible exact anyByte_w (d := D + 1) hn)) | rw [newP_eq])
   refine Wp.mnews M2 (kt.bld h2) kt.one hx fun h3 M3 => ?_
   obtain ⟨h4, e4, t4⟩ := over_r (n := n) (d := D + 2) (h := h3) (grow_one _ h2.next kt.len kt.one) 5
   refine Wp.callN e4 ?_
   have M4 := M3.keep t4
   refine Wp.obind (avAgg_agg _) ?_
   have M5 : Mem [b] h h4 ((b, TRd, rdP u (i + 1)) :: (h.next, TNode, [.int .i64 0, .int .u64 0, .int .u64 0, .int .u64 0, .int .u64 0, .nsl]) :: ([(h2.next, TNode, nodeC 2 anyW .nsl)] ++ ([] ++ []))) := M4.perm (List.perm_append_comm (l₁ := [_, _]) (l₂ := [_]))
   exact fin_node M5 rfl (signed kt 5 h2.next)
  rw [if_neg h42]
  by_cases h63 : c = 63
  ·rw [if_pos h63]
   refine StepN.ok_of ?_
   rw [w_pattern_reader_globPart]
   unfold pattern_reader_globPart
   refine Wp.mnew (Mem.one k0 hb) fun h1 Mx => ?_
   have M1 := Mx.swap
   have hs := next_r (n := n) (d := D + 1) M1.at0.1 M1.at0.2.1 hi hu
   rw [hc] at hs
   refine Wp.rdK hs M1 fun h2 M2 => ?_
   repeat (first | (with_reducible refine Wp.lett ?_) | ((with_reducible apply Wp.obind); (with_reducible first | exact avInt_int _ _ | exact avAgg_agg _)) | ((with_reducible refine Wp.ift ?_ ?_); ((with_reducible apply beq_t); omega)) | ((with_reducible refine Wp.iff ?_ ?_); ((with_reducible apply beq_f); omega)) | ((with_reducible apply Wp.callN); (with_reducible exact anyByte_w (d := D + 1) hn)) | rw [newP_eq])
   exact fin_node M2 rfl (NodeT.leaf 2 anyW_ok)
  rw [if_neg h63]
  by_cases h92 : c = 92
  ·rw [if_pos h92]
   cases he : at? u (i + 1) with
   | none =>
    refine StepN.err_of ?_
    rw [w_pattern_reader_globPart]
    unfold pattern_reader_globPart
    refine Wp.mnew (Mem.one k0 hb) fun h1 Mx => ?_
    have M1 := Mx.swap
    have hs := next_r (n := n) (d := D + 1) M1.at0.1 M1.at0.2.1 hi hu
    rw [hc] at hs
    refine Wp.rdK hs M1 fun h2 M2 => ?_
    have hs2 := next_r (n := n) (d := D + 1) M2.at0.1 M2.at0.2.1 (by omega) hu
    rw [he] at hs2
    repeat (first | (with_reducible refine Wp.lett ?_) | ((with_reducible apply Wp.obind); (with_reducible exact avInt_int _ _)) | ((with_reducible refine Wp.ift ?_ ?_); ((with_reducible apply beq_t); omega)) | ((with_reducible refine Wp.iff ?_ ?_); ((with_reducible apply beq_f); omega)) | rw [newP_eq])
    exact Wp.rdE hs2 M2 fun h' p k1 t1 => ⟨rfl, p, k1, t1⟩
   | some e =>
    refine StepN.ok_of ?_
    rw [w_pattern_reader_globPart]
    unfold pattern_reader_globPart
    refine Wp.mnew (Mem.one k0 hb) fun h1 Mx => ?_
    have M1 := Mx.swap
    have hs := next_r (n := n) (d := D + 1) M1.at0.1 M1.at0.2.1 hi hu
    rw [hc] at hs
    refine Wp.rdK hs M1 fun h2 M2 => ?_
    have hs2 := next_r (n := n) (d := D + 1) M2.at0.1 M2.at0.2.1 (by omega) hu
    rw [he] at hs2
    repeat (first | (with_reducible refine Wp.lett ?_) | ((with_reducible apply Wp.obind); (with_reducible exact avInt_int _ _)) | ((with_reducible refine Wp.ift ?_ ?_); ((with_reducible apply beq_t); omega)) | ((with_reducible refine Wp.iff ?_ ?_); ((with_reducible apply beq_f); omega)) | rw [newP_eq])
    refine Wp.rdK hs2 M2 fun h3 M3 => ?_
    repeat (first | ((with_reducible apply Wp.obind); (with_reducible first | exact avInt_int _ _ | exact avAgg_agg _)) | ((with_reducible apply Wp.callN); (with_reducible exact oneByte_w (d := D + 1) hn (at?_256 he))))
    exact fin_node M3 rfl (NodeT.leaf 2 (spanW_ok 1 zeroW_ok e))
  rw [if_neg h92]
  refine StepN.ok_of ?_
  rw [w_pattern_reader_globPart]
  unfold pattern_reader_globPart
  refine Wp.mnew (Mem.one k0 hb) fun h1 Mx => ?_
  have M1 := Mx.swap
  have hs := next_r (n := n) (d := D + 1) M1.at0.1 M1.at0.2.1 hi hu
  rw [hc] at hs
  refine Wp.rdK hs M1 fun h2 M2 => ?_
  repeat (first | (with_reducible refine Wp.lett ?_) | ((with_reducible apply Wp.obind); (with_reducible first | exact avInt_int _ _ | exact avAgg_agg _)) | ((with_reducible refine Wp.iff ?_ ?_); ((with_reducible apply beq_f); omega)) | ((with_reducible apply Wp.callN); (with_reducible exact oneByte_w (d := D + 1) hn h256)) | rw [newP_eq])
  exact fin_node M2 rfl (NodeT.leaf 2 (spanW_ok 1 zeroW_ok c))
theorem flat_loop {fid : Nat} {F : Nat → Res} (hu : u.length ≤ 1000000) (hF : PartF u fid F) (hdyn : ∀ (call : CallF) (b : Nat) (h : AHeap), dynC Try.prog call (AV.fn fid [.ptr b 0] []) [] h = call fid [.ptr b 0] h) : ∀ (k i : Nat) (l : List Nd), i ≤ u.length → u.length - i < k → l.length ≤ i → ∃ r, FlatP F u l i r ∧ Bnd u i r ∧
   ∀ {n D f b r0 : Nat} {S : List Nat} {h0 H : AHeap} {kc : List (List AV)} {kv : AV} {T0 T1 : List RowT} {z : List AV} {k7 : AV → AHeap → R} {Q : ARes → AHeap → Prop}, 4 ≤ D → 300 < n → u.length - i < f → GrowT TNode 6 kc kv T0 → KidsT l kc T1 → memB TNode h0.ex = false →
    Mem S h0 H ((b, TRd, rdP u i) :: (r0, TNode, z) :: (T0 ++ T1)) →
    (∀ l' j kc kv T0 T1 H', r = .ok (joinN 3 l', j) → GrowT TNode 6 kc kv T0 → KidsT l' kc T1 → Mem S h0 H' ((b, TRd, rdP u j) :: (r0, TNode, z) :: (T0 ++ T1)) → Wp (k7 kv H') Q) →
    (∀ e p H', r = .error e → Rd H' b u p → Tch S h0 H' → Q (.panic (PanA 6 e)) H') →
    Wp (pattern_reader_row_L0 (world n D) (.ptr b 0) (AV.fn fid [.ptr b 0] []) k7 f kv H) Q
 | 0, _, _, _, hk, _ => by omega
 | k + 1, i, l, hi, hk, hli => by
  by_cases hst : u.length ≤ i
  ·refine ⟨_, .stop hst, ⟨Nat.le_refl _, hi⟩, ?_⟩
   intro n D f b r0 S h0 H kc kv T0 T1 z k7 Q hD hn hf g ks hex M hok hbad
   obtain ⟨D, rfl⟩ : ∃ D', D = D' + 4 := ⟨D - 4, by omega⟩
   cases f with
   | zero => omega
   | succ f =>
    have he := ended_r (n := n) (d := D + 3) M.at0.1
    have hfin := hok l i kc kv T0 T1 H rfl g ks M
    rw [pattern_reader_row_L0_s]
    unfold pattern_reader_row_L0b
    rw [decide_eq_true (by omega)] at he
    repeat (first | (with_reducible refine Wp.lett ?_) | ((with_reducible apply Wp.obind); (with_reducible exact avBool_bool _)) | ((with_reducible refine Wp.iff ?_ ?_); (with_reducible exact Bool.not_true)) | ((with_reducible apply Wp.callN); (with_reducible assumption)))
    exact hfin
  ·have hb1 := hF.1 i hi
   cases hr : F i with
   | error e =>
    rw [hr] at hb1
    refine ⟨_, .bad (by omega) hr, hb1, ?_⟩
    intro n D f b r0 S h0 H kc kv T0 T1 z k7 Q hD hn hf g ks hex M hok hbad
    obtain ⟨D, rfl⟩ : ∃ D', D = D' + 4 := ⟨D - 4, by omega⟩
    cases f with
    | zero => omega
    | succ f =>
     have he := ended_r (n := n) (d := D + 3) M.at0.1
     rw [decide_eq_false (by omega)] at he
     have hs := hF.2 (n := n) (D := D + 4) (by omega) hn hi M.at0.1 M.at0.2.1 (by rw [M.ex]; exact hex)
     rw [hr] at hs
     rw [pattern_reader_row_L0_s]
     unfold pattern_reader_row_L0b
     repeat (first | (with_reducible refine Wp.lett ?_) | ((with_reducible apply Wp.obind); (with_reducible exact avBool_bool _)) | ((with_reducible refine Wp.ift ?_ ?_); (with_reducible exact Bool.not_false)) | ((with_reducible first | apply Wp.callN | apply Wp.callK); (with_reducible assumption)))
     rw [hdyn]
     exact Wp.nodeE hs M fun h' p k1 t1 => hbad e p h' rfl k1 t1
   | ok tj =>
    obtain ⟨t, j⟩ := tj
    rw [hr] at hb1
    obtain ⟨b1, b2⟩ := hb1
    obtain ⟨r, q1, q2, q3⟩ := flat_loop hu hF hdyn k j (l ++ [t]) b2 (by omega) (by simp; omega)
    refine ⟨r, .more (by omega) hr q1, ?_, ?_⟩
    ·cases r with
     | error e => exact q2
     | ok tj2 =>
      obtain ⟨a1, a2⟩ := q2
      exact ⟨by omega, a2⟩
    ·intro n D f b r0 S h0 H kc kv T0 T1 z k7 Q hD hn hf g ks hex M hok hbad
     obtain ⟨D, rfl⟩ : ∃ D', D = D' + 4 := ⟨D - 4, by omega⟩
     cases f with
     | zero => omega
     | succ f =>
      have he := ended_r (n := n) (d := D + 3) M.at0.1
      rw [decide_eq_false (by omega)] at he
      have hs := hF.2 (n := n) (D := D + 4) (by omega) hn hi M.at0.1 M.at0.2.1 (by rw [M.ex]; exact hex)
      rw [hr] at hs
      rw [pattern_reader_row_L0_s]
      unfold pattern_reader_row_L0b
      repeat (first | (with_reducible refine Wp.lett ?_) | ((with_reducible apply Wp.obind); (with_reducible exact avBool_bool _)) | ((with_reducible refine Wp.ift ?_ ?_); (with_reducible exact Bool.not_false)) | ((with_reducible first | apply Wp.callN | apply Wp.callK); (with_reducible assumption)))
      rw [hdyn]
      refine Wp.nodeK hs M fun c T h2 kt M3 => ?_
      (((with_reducible apply Wp.obind); (with_reducible exact avAgg_agg _)))
      refine Wp.nodeGrow M3 g ks kt hex (by omega) fun kv' h' T0' g' ks' M4 => ?_
      exact q3 hD hn (by omega) g' ks' hex M4 hok hbad
theorem flat_ok {fid : Nat} {F : Nat → Res} (hu : u.length ≤ 1000000) (hF : PartF u fid F) (hdyn : ∀ (call : CallF) (b : Nat) (h : AHeap), dynC Try.prog call (AV.fn fid [.ptr b 0] []) [] h = call fid [.ptr b 0] h) : ∃ r, FlatP F u [] 0 r ∧ Bnd u 0 r ∧
  ∀ {n D b : Nat} {h : AHeap}, 5 ≤ D → 300 < n → u.length < n → Rd h b u 0 → b < h.next → memB TNode h.ex = false → StepN b u h (world n D 59 [.ptr b 0, AV.fn fid [.ptr b 0] []] h) r := by
 obtain ⟨r, r1, r2, r3⟩ := flat_loop hu hF hdyn (u.length + 1) 0 [] (Nat.zero_le _) (by omega) (Nat.le_refl _)
 refine ⟨r, r1, r2, ?_⟩
 intro n D b h hD hn hn2 k0 hb hx
 obtain ⟨D, rfl⟩ : ∃ D', D = D' + 5 := ⟨D - 5, by omega⟩
 refine StepN.of_main fun Q q1 q2 => ?_
 rw [w_pattern_reader_row]
 unfold pattern_reader_row
 refine Wp.mnew (Mem.one k0 hb) fun h1 Mx => ?_
 rw [newP_eq]
 have M1 := Mx.swap
 ((with_reducible refine Wp.join1 (fun _ _ => ?_)))
 rename_i k7 ek7
 refine r3 (r0 := h.next) (by omega) hn (by omega) (GrowT.nil _ _) .nil hx M1 ?_ q2
 intro l' j kc kv T0 T1 H' hr g ks M2
 refine Wp.go1 ek7 ?_
 obtain ⟨c, T, h2, e2, kt, M3⟩ := inRow_r (n := n) (d := D + 2) (xs := [_, _]) M2 g ks
 repeat (first | ((with_reducible apply Wp.obind); (with_reducible exact avAgg_agg _)) | ((with_reducible apply Wp.callN); (with_reducible assumption)))
 refine (fin_node M3 rfl kt).mono ?_
 rintro _ h3 ⟨c3, T3, rfl, kt3, M4⟩
 exact q1 _ _ _ _ _ hr kt3 M4
end
def dropJ : Res → Except Nat Nd
 | .ok (t, _) => .ok t
 | .error q => .error q
inductive TreeP (u : Bytes) : Int → Except Nat Nd → Prop
 | lit {r : Res} (h : FlatP (partL u) u [] 0 r) : TreeP u 1 (dropJ r)
 | glob {r : Res} (h : FlatP (partG u) u [] 0 r) : TreeP u 2 (dropJ r)
 | re_bad {q : Nat} (h : AltP u [] 0 (.error q)) : TreeP u 3 (.error q)
 | re_end {t : Nd} {j : Nat} (h : AltP u [] 0 (.ok (t, j))) (n : j ≠ u.length) : TreeP u 3 (.error j)
 | re {t : Nd} (h : AltP u [] 0 (.ok (t, u.length))) : TreeP u 3 (.ok t)
def StepT (b : Nat) (u : Bytes) (h : AHeap) (x : R) : Except Nat Nd → Prop
 | .ok t => ∃ c T h' p, x = some (.ret (.agg c), h') ∧ NodeT t c T ∧ Mem [b] h h' ((b, TRd, rdP u p) :: T)
 | .error q => ∃ h' p, x = some (.panic (PanA 6 q), h') ∧ Rd h' b u p ∧ Tch [b] h h'
section
variable {n d b p q i m : Nat} {h h0 : AHeap} {u : Bytes} {Q : ARes → AHeap → Prop} {S : List Nat} {xs rs T T0 T1 : List RowT} {w : List Nat} {x : R} {t : Nd} {c : List AV} {v kv : AV} {l : List Nd} {kc : List (List AV)}
theorem StepT.ok_of (kk : Wp x fun r h' => ∃ c T p, r = .ret (.agg c) ∧ NodeT t c T ∧ Mem [b] h h' ((b, TRd, rdP u p) :: T)) : StepT b u h x (.ok t) := by
 obtain ⟨_, h', e, c, T, p, rfl, k1, k2⟩ := kk
 exact ⟨c, T, h', p, e, k1, k2⟩
theorem StepT.err_of (kk : Wp x fun r h' => r = .panic (PanA 6 q) ∧ ∃ p, Rd h' b u p ∧ Tch [b] h h') : StepT b u h x (.error q) := by
 obtain ⟨_, h', e, rfl, p, k1, k2⟩ := kk
 exact ⟨h', p, e, k1, k2⟩
theorem end_r (k : Rd h b u p) (hp : p = u.length) : world n (d + 2) 62 [.ptr b 0] h = some (.ret (.tup []), h) := by
 have he := ended_r (n := n) (d := d) k
 rw [decide_eq_true hp] at he
 apply Wp.eq
 rw [w_pattern_reader_end]
 unfold pattern_reader_end
 repeat (first | (with_reducible refine Wp.join0 (fun _ _ => ?_)) | (with_reducible refine Wp.lett ?_) | ((with_reducible apply Wp.obind); (with_reducible exact avBool_bool _)) | ((with_reducible refine Wp.iff ?_ ?_); (with_reducible exact Bool.not_true)) | ((with_reducible apply Wp.callN); (with_reducible assumption)) | (with_reducible refine Wp.go0 (by assumption) ?_))
 exact Wp.ret ⟨rfl, rfl⟩
theorem end_bad (k : Rd h b u p) (hp : p ≠ u.length) : world n (d + 2) 62 [.ptr b 0] h = some (.panic (PanA 6 p), h) := by
 have he := ended_r (n := n) (d := d) k
 rw [decide_eq_false hp] at he
 apply Wp.eq
 rw [w_pattern_reader_end]
 unfold pattern_reader_end
 have hr := refuse_r (n := n) (d := d) (h := h) 6 p
 have k0 : RowH h b 70 [strA u, .int .i64 (p : Int)] := k
 clear k
 repeat (first | (with_reducible refine Wp.join0 (fun _ _ => ?_)) | (with_reducible refine Wp.lett ?_) | ((with_reducible apply Wp.obind); first | (with_reducible first | exact avInt_int _ _ | exact avBool_bool _ | exact nilC_ptr _ _ | exact fldP_ptr _ _ _) | ((with_reducible apply RowH.cell'); (with_reducible assumption); rfl)) | ((with_reducible refine Wp.ift ?_ ?_); (with_reducible exact Bool.not_false)) | ((with_reducible first | apply Wp.callN | apply Wp.callK); (with_reducible assumption)))
 exact Wp.callP hr ⟨rfl, rfl⟩
theorem tree_r (hu : u.length ≤ 1000000) (kind : Int) (hk : kind = 1 ∨ kind = 2 ∨ kind = 3) : ∃ r, TreeP u kind r ∧ (∀ q, r = .error q → q ≤ u.length) ∧
  ∀ {n D b : Nat} {h : AHeap}, 4 * u.length + 12 ≤ D → 300 < n → u.length + 5 < n → Rd h b u 0 → b < h.next → memB TNode h.ex = false → StepT b u h (world n D 40 [.ptr b 0, .int .i64 kind] h) r := by
 rcases hk with rfl | rfl | rfl
 ·obtain ⟨r, r1, r2, r3⟩ := flat_ok hu (partL_f hu) dynL
  refine ⟨_, .lit r1, ?_, ?_⟩
  ·intro q hh
   cases r with
   | error e =>
    cases hh
    exact r2
   | ok tj => cases hh
  ·intro n D b h hD hn hn2 k0 hb hx
   obtain ⟨D, rfl⟩ : ∃ D', D = D' + 6 := ⟨D - 6, by omega⟩
   cases r with
   | error e =>
    refine StepT.err_of ?_
    rw [w_pattern_reader_tree]
    unfold pattern_reader_tree
    refine Wp.mnew (Mem.one k0 hb) fun h1 Mx => ?_
    have M1 := Mx.swap
    have hs := r3 (n := n) (D := D + 5) (by omega) hn (by omega) M1.at0.1 M1.at0.2.1 (by rw [M1.ex]; exact hx)
    repeat (first | (with_reducible refine Wp.lett ?_) | ((with_reducible refine Wp.iff ?_ ?_); ((with_reducible apply beq_f); omega)) | rw [newP_eq])
    exact Wp.nodeE hs M1 fun h' p k1 t1 => ⟨rfl, p, k1, t1⟩
   | ok tj =>
    obtain ⟨t, j⟩ := tj
    refine StepT.ok_of ?_
    rw [w_pattern_reader_tree]
    unfold pattern_reader_tree
    refine Wp.mnew (Mem.one k0 hb) fun h1 Mx => ?_
    have M1 := Mx.swap
    have hs := r3 (n := n) (D := D + 5) (by omega) hn (by omega) M1.at0.1 M1.at0.2.1 (by rw [M1.ex]; exact hx)
    repeat (first | (with_reducible refine Wp.lett ?_) | ((with_reducible refine Wp.iff ?_ ?_); ((with_reducible apply beq_f); omega)) | rw [newP_eq])
    refine Wp.nodeK hs M1 fun c T h2 kt M3 => ?_
    (((with_reducible apply Wp.obind); (with_reducible exact avAgg_agg _)))
    refine (fin_node M3 rfl kt).mono ?_
    rintro _ h3 ⟨c3, T3, rfl, kt3, M4⟩
    exact ⟨c3, T3, j, rfl, kt3, M4⟩
 ·obtain ⟨r, r1, r2, r3⟩ := flat_ok hu (partG_f hu) dynG
  refine ⟨_, .glob r1, ?_, ?_⟩
  ·intro q hh
   cases r with
   | error e =>
    cases hh
    exact r2
   | ok tj => cases hh
  ·intro n D b h hD hn hn2 k0 hb hx
   obtain ⟨D, rfl⟩ : ∃ D', D = D' + 6 := ⟨D - 6, by omega⟩
   cases r with
   | error e =>
    refine StepT.err_of ?_
    rw [w_pattern_reader_tree]
    unfold pattern_reader_tree
    refine Wp.mnew (Mem.one k0 hb) fun h1 Mx => ?_
    have M1 := Mx.swap
    have hs := r3 (n := n) (D := D + 5) (by omega) hn (by omega) M1.at0.1 M1.at0.2.1 (by rw [M1.ex]; exact hx)
    repeat (first | (with_reducible refine Wp.lett ?_) | ((with_reducible refine Wp.ift ?_ ?_); ((with_reducible apply beq_t); omega)) | rw [newP_eq])
    exact Wp.nodeE hs M1 fun h' p k1 t1 => ⟨rfl, p, k1, t1⟩
   | ok tj =>
    obtain ⟨t, j⟩ := tj
    refine StepT.ok_of ?_
    rw [w_pattern_reader_tree]
    unfold pattern_reader_tree
    refine Wp.mnew (Mem.one k0 hb) fun h1 Mx => ?_
    have M1 := Mx.swap
    have hs := r3 (n := n) (D := D + 5) (by omega) hn (by omega) M1.at0.1 M1.at0.2.1 (by rw [M1.ex]; exact hx)
    repeat (first | (with_reducible refine Wp.lett ?_) | ((with_reducible refine Wp.ift ?_ ?_); ((with_reducible apply beq_t); omega)) | rw [newP_eq])
    refine Wp.nodeK hs M1 fun c T h2 kt M3 => ?_
    (((with_reducible apply Wp.obind); (with_reducible exact avAgg_agg _)))
    refine (fin_node M3 rfl kt).mono ?_
    rintro _ h3 ⟨c3, T3, rfl, kt3, M4⟩
    exact ⟨c3, T3, j, rfl, kt3, M4⟩
 ·obtain ⟨r, r1, r2, r3⟩ := alts_ok hu u.length 0 (Nat.zero_le _) (by omega)
  cases r with
  | error e =>
   refine ⟨_, .re_bad r1, fun q hh => by cases hh; exact r2, ?_⟩
   intro n D b h hD hn hn2 k0 hb hx
   obtain ⟨D, rfl⟩ : ∃ D', D = D' + 6 := ⟨D - 6, by omega⟩
   refine StepT.err_of ?_
   rw [w_pattern_reader_tree]
   unfold pattern_reader_tree
   refine Wp.mnew (Mem.one k0 hb) fun h1 Mx => ?_
   have M1 := Mx.swap
   have hs := r3 (n := n) (D := D + 5) (by omega) hn hn2 M1.at0.1 M1.at0.2.1 (by rw [M1.ex]; exact hx)
   repeat (first | (with_reducible refine Wp.lett ?_) | ((with_reducible refine Wp.ift ?_ ?_); ((with_reducible apply beq_t); omega)) | ((with_reducible refine Wp.iff ?_ ?_); ((with_reducible apply beq_f); omega)) | rw [newP_eq])
   exact Wp.nodeE hs M1 fun h' p k1 t1 => ⟨rfl, p, k1, t1⟩
  | ok tj =>
   obtain ⟨t, j⟩ := tj
   by_cases hj : j = u.length
   ·subst hj
    refine ⟨_, .re r1, fun q hh => (by cases hh), ?_⟩
    intro n D b h hD hn hn2 k0 hb hx
    obtain ⟨D, rfl⟩ : ∃ D', D = D' + 6 := ⟨D - 6, by omega⟩
    refine StepT.ok_of ?_
    rw [w_pattern_reader_tree]
    unfold pattern_reader_tree
    refine Wp.mnew (Mem.one k0 hb) fun h1 Mx => ?_
    have M1 := Mx.swap
    have hs := r3 (n := n) (D := D + 5) (by omega) hn hn2 M1.at0.1 M1.at0.2.1 (by rw [M1.ex]; exact hx)
    repeat (first | (with_reducible refine Wp.lett ?_) | ((with_reducible refine Wp.ift ?_ ?_); ((with_reducible apply beq_t); omega)) | ((with_reducible refine Wp.iff ?_ ?_); ((with_reducible apply beq_f); omega)) | rw [newP_eq])
    refine Wp.nodeK hs M1 fun c T h2 kt M3 => ?_
    (((with_reducible apply Wp.obind); (with_reducible exact avAgg_agg _)))
    refine Wp.mnew M3 fun h3 M4 => ?_
    rw [newP_eq]
    refine Wp.sa0 M4 kt.len rfl kt.one fun h4 M5 => ?_
    have he := end_r (n := n) (d := D + 3) M5.at1.1 rfl
    refine Wp.callK he ?_
    refine Wp.lr0 M5 kt.len ?_
    refine (fin_node (mem_mid (xs := [_]) (T0 := [_]) M5.swap) rfl kt).mono ?_
    rintro _ h3 ⟨c3, T3, rfl, kt3, M6⟩
    exact ⟨c3, T3, _, rfl, kt3, M6⟩
   ·refine ⟨_, .re_end r1 hj, fun q hh => by cases hh; exact r2.2, ?_⟩
    intro n D b h hD hn hn2 k0 hb hx
    obtain ⟨D, rfl⟩ : ∃ D', D = D' + 6 := ⟨D - 6, by omega⟩
    refine StepT.err_of ?_
    rw [w_pattern_reader_tree]
    unfold pattern_reader_tree
    refine Wp.mnew (Mem.one k0 hb) fun h1 Mx => ?_
    have M1 := Mx.swap
    have hs := r3 (n := n) (D := D + 5) (by omega) hn hn2 M1.at0.1 M1.at0.2.1 (by rw [M1.ex]; exact hx)
    repeat (first | (with_reducible refine Wp.lett ?_) | ((with_reducible refine Wp.ift ?_ ?_); ((with_reducible apply beq_t); omega)) | ((with_reducible refine Wp.iff ?_ ?_); ((with_reducible apply beq_f); omega)) | rw [newP_eq])
    refine Wp.nodeK hs M1 fun c T h2 kt M3 => ?_
    (((with_reducible apply Wp.obind); (with_reducible exact avAgg_agg _)))
    refine Wp.mnew M3 fun h3 M4 => ?_
    rw [newP_eq]
    refine Wp.sa0 M4 kt.len rfl kt.one fun h4 M5 => ?_
    have he := end_bad (n := n) (d := D + 3) M5.at1.1 hj
    exact Wp.callP he ⟨rfl, _, M5.at1.1, M5.tch⟩
end
theorem dynT (call : CallF) (a b c : Nat) (h : AHeap) : dynC Try.prog call (AV.fn 39 [] [.ptr a 0, .ptr b 0, .ptr c 0]) [] h = call 39 [.ptr a 0, .ptr b 0, .ptr c 0] h := by
 have e : callV Try.prog h [] (some (AV.fn 39 [] [.ptr a 0, .ptr b 0, .ptr c 0])) = some (.call 39 [.ptr a 0, .ptr b 0, .ptr c 0], h) := by kernel_rfl
 unfold dynC
 rw [e]
section
variable {n D d b p q i m : Nat} {h h0 : AHeap} {u : Bytes} {Q : ARes → AHeap → Prop} {S : List Nat} {xs rs rs' T T0 T1 : List RowT} {w : List Nat} {x : R} {t : Nd} {c : List AV} {v kv fv : AV} {l : List Nd} {kc : List (List AV)}
theorem guard_fine (Mx : Mem S h0 h rs) (hq : ∀ h1, Mem S h0 h1 ((h.next, TSpot, [.int .i64 0, .int .i64 0]) :: rs) → ∃ h2, dynC Try.prog (world n D) fv [] h1 = some (.ret (.tup []), h2) ∧ Mem S h0 h2 ((h.next, TSpot, [.int .i64 0, .int .i64 0]) :: rs')) : ∃ h', world n (D + 1) 35 [fv] h = some (.ret (.agg [.int .i64 0, .int .i64 0]), h') ∧ Mem S h0 h' rs' := by
 apply Wp.ex
 rw [w_pattern_guard]
 unfold pattern_guard
 refine Wp.mnew Mx fun h1 M1 => ?_
 obtain ⟨h2, e2, M2⟩ := hq h1 M1
 refine callKd_eq_ret e2 ?_
 clear Mx M1
 have Mx := M2
 clear M2
 rw [newP_eq]
 repeat (first | ((with_reducible apply Wp.lr0 Mx); rfl) | ((with_reducible apply Wp.sa0 Mx); rfl; rfl; (rfl); intro _ Mz; clear Mx; have Mx := Mz; clear Mz) | ((with_reducible apply Wp.callN); (with_reducible exact recov_nil)))
 exact Wp.ret ⟨rfl, Mx.pop⟩
noncomputable abbrev rowsT (pc rd sp nd pt p : Nat) (u : Bytes) (kind : Int) (c : List AV) : List RowT := [(pc, TPtr, [.ptr rd 0]), (rd, TRd, rdP u p), (sp, TSpot, [.int .i64 0, .int .i64 0]), (nd, TNode, c), (pt, 35, [.int .i64 kind, strA u])]
theorem t1_ok {pc rd sp nd pt : Nat} {kind : Int} {z : List AV} (hz : z.length = 6) (hs : ∀ (h : AHeap), Rd h rd u 0 → rd < h.next → memB TNode h.ex = false → StepT rd u h (world n D 40 [.ptr rd 0, .int .i64 kind] h) (.ok t)) (M : Mem S h0 h (rowsT pc rd sp nd pt 0 u kind z ++ xs)) (hx : memB TNode h0.ex = false) :
  ∃ c T h' p, world n (D + 1) 39 [.ptr pc 0, .ptr pt 0, .ptr nd 0] h = some (.ret (.tup []), h') ∧ NodeT t c T ∧ Mem S h0 h' (rowsT pc rd sp nd pt p u kind c ++ (xs ++ T)) := by
 have Mx : Mem S h0 h ((pc, TPtr, [.ptr rd 0]) :: (rd, TRd, rdP u 0) :: (sp, TSpot, [.int .i64 0, .int .i64 0]) :: (nd, TNode, z) :: (pt, 35, [.int .i64 kind, strA u]) :: xs) := M
 obtain ⟨c, T, h1, p, e1, kt, M1⟩ := hs h Mx.at1.1 Mx.at1.2.1 (by rw [Mx.ex]; exact hx)
 have M2 : Mem S h0 h1 ((rd, TRd, rdP u p) :: (pc, TPtr, [.ptr rd 0]) :: (sp, TSpot, [.int .i64 0, .int .i64 0]) :: (nd, TNode, z) :: (pt, 35, [.int .i64 kind, strA u]) :: (xs ++ T)) := Mem.frameT (xs := [_]) (ys := [_]) Mx.swap M1
 suffices hK : Wp (world n (D + 1) 39 [.ptr pc 0, .ptr pt 0, .ptr nd 0] h) fun r h' => r = .ret (.tup []) ∧ Mem S h0 h' (rowsT pc rd sp nd pt p u kind c ++ (xs ++ T)) by
  obtain ⟨_, h', e, rfl, M'⟩ := hK
  exact ⟨c, T, h', p, e, kt, M'⟩
 rw [w_pattern_Tree_1]
 unfold pattern_Tree_1
 repeat (first | ((with_reducible apply Wp.obind); (with_reducible first | exact avInt_int _ _ | exact fldP_ptr _ _ _)) | ((with_reducible apply Wp.ld0 Mx); rfl) | ((with_reducible apply Wp.ld4 Mx); rfl) | ((with_reducible apply Wp.obind); (with_reducible exact avAgg_agg _)) | ((with_reducible apply Wp.callK); (with_reducible assumption)))
 refine Wp.sa3 M2 kt.len hz kt.one fun h2 M3 => ?_
 exact Wp.ret ⟨rfl, M3.swap⟩
theorem t1_bad {pc rd sp nd pt : Nat} {kind : Int} {z : List AV} (hs : ∀ (h : AHeap), Rd h rd u 0 → rd < h.next → memB TNode h.ex = false → StepT rd u h (world n D 40 [.ptr rd 0, .int .i64 kind] h) (.error q)) (M : Mem S h0 h (rowsT pc rd sp nd pt 0 u kind z ++ xs)) (hx : memB TNode h0.ex = false) :
  ∃ h' p, world n (D + 1) 39 [.ptr pc 0, .ptr pt 0, .ptr nd 0] h = some (.panic (PanA 6 q), h') ∧ Mem S h0 h' (rowsT pc rd sp nd pt p u kind z ++ xs) := by
 have Mx : Mem S h0 h ((pc, TPtr, [.ptr rd 0]) :: (rd, TRd, rdP u 0) :: (sp, TSpot, [.int .i64 0, .int .i64 0]) :: (nd, TNode, z) :: (pt, 35, [.int .i64 kind, strA u]) :: xs) := M
 obtain ⟨h1, p, e1, k1, t1⟩ := hs h Mx.at1.1 Mx.at1.2.1 (by rw [Mx.ex]; exact hx)
 suffices hK : Wp (world n (D + 1) 39 [.ptr pc 0, .ptr pt 0, .ptr nd 0] h) fun r h' => r = .panic (PanA 6 q) ∧ Mem S h0 h' (rowsT pc rd sp nd pt p u kind z ++ xs) by
  obtain ⟨_, h', e, rfl, M'⟩ := hK
  exact ⟨h', p, e, M'⟩
 rw [w_pattern_Tree_1]
 unfold pattern_Tree_1
 repeat (first | ((with_reducible apply Wp.obind); (with_reducible first | exact avInt_int _ _ | exact fldP_ptr _ _ _)) | ((with_reducible apply Wp.ld0 Mx); rfl) | ((with_reducible apply Wp.ld4 Mx); rfl))
 exact Wp.callP e1 ⟨rfl, Mem.upd (xs := [_]) Mx t1 k1⟩
theorem loL_last : ∀ (l : List AV) (x : AV) (N : Nat), AV.loL N (l ++ [x]) = true → AV.lo N x = true
 | [], x, N, h => by
  have : (AV.lo N x && AV.loL N []) = true := h
  simpa [AV.loL] using this
 | y :: l, x, N, h => by
  have : (AV.lo N y && AV.loL N (l ++ [x])) = true := h
  rw [Bool.and_eq_true] at this
  exact loL_last l x N this.2
theorem NodeT.low {N : Nat} (k : NodeT t c T) (hn : ∀ y ∈ T, N ≤ y.1) (hl : AV.loL N c = true) : T = [] := by
 cases k with
 | mk hw g ks =>
  rename_i op w kids kc kv T0 T1
  have h2 := loL_last (.int .i64 (op : Int) :: wordsA w) kv N hl
  rcases g.2 with ⟨rfl, rfl, rfl⟩ | ⟨_, q, rfl, rfl⟩
  ·cases ks
   rfl
  ·have h3 := hn (q, TNode, kc.flatten) (by simp)
   have h4 : q < N := Nat.le_of_ble_eq_true h2
   exact absurd h3 (by show ¬ N ≤ q; omega)
end
end Go.Proofs.Yteibdplpbcobbaa
